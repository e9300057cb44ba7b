/- Rows of truths, marked and held. -/
import Derived.Test.YtpcmhkcahajdgaaMrw
import Derived.Test.YtpcmhkcahajdgaaBro
namespace Go.Proofs.Ytpcmhkcahajdgaa
open Go.RowKit
set_option linter.unusedSimpArgs false
set_option linter.unusedVariables false

def b3 (z : Int) : Bool := z % 3 == 0
def bf (k : Int) (n : Nat) : List Bool := (List.range n).map fun (i : Nat) => b3 (k + (i : Int))

set_option maxHeartbeats 2000000 in
theorem markBoolS_all {v : Value} {zs : List Bool} {bs : List Nat} {k : Int} {w : World} (h : GOwn Value.bool w v zs bs) (hk0 : 0 ≤ k) (hk1 : k + zs.length ≤ 33554432) :
    Calls Try.prog 55 #[v, .int .i64 k] w fun e w' => e = .returned (.int .i64 (k + zs.length)) ∧ Fr bs w w' ∧ GOwn Value.bool w' v (bf k zs.length) bs := by
  rcases h with ⟨h0, ⟨a, c, rfl, hcm⟩, rfl⟩ | ⟨h0, g, c, rfl, hlc, hcm, ht, rfl, -⟩
  · have hz : zs = [] := List.eq_nil_of_length_eq_zero h0
    subst hz
    go_enter Try.func55, Try.ntmps55
    go_wp2
    refine wp_loop_rounds 1 ?_
    rw [rounds_succ]
    go_wp2
    go_ret
    exact ⟨by simp, Fr.refl _ _, .inl ⟨by simp [bf], ⟨_, _, rfl, hcm⟩, rfl⟩⟩
  · have HT : Hid _ := ht
    clear ht
    go_enter Try.func55, Try.ntmps55
    go_wp2
    go_loopw [1, 5] (fun o j wr => ∃ (i : Nat) (z : Int), i ≤ zs.length ∧ j = .int .i64 i ∧ o = .int .i64 z ∧ Hid (z = k + (i : Int)) ∧ Fr [g] w wr ∧ Hid (wr.there g 0 zs.length) ∧ Hid (∀ q, q < i → wr.cell? ⟨g, q, none⟩ = some (.bool (b3 (k + (q : Int)))))) (fun _ j _ => zs.length - (intOf j).toNat)
    case atStart => exact ⟨0, k, by omega, rfl, rfl, (show k = k + ((0 : Nat) : Int) by simp), Fr.refl _ _, HT, (show ∀ q, q < 0 → _ from fun q hq => by omega)⟩
    case round =>
      obtain ⟨i, z, hi, rfl, rfl, HZ, hfr, HTR, HQ⟩ := hrel
      by_cases hlt : i < zs.length
      · have hth : wr.there g 0 zs.length := HTR.out
        have t0 := hth i hlt
        rw [Nat.zero_add] at t0
        obtain ⟨u0, x0⟩ := Option.isSome_iff_exists.1 t0.1
        have f0 := t0.2
        have HX0 : Hid (wr.cell? ⟨g, i, none⟩ = some u0) := x0
        have hz := HZ.out
        have v1 := w64 (z + 1) (by omega)
        have z0 : 0 ≤ z := by omega
        have v3 := w64 (Int.tmod z 3) (by rw [Int.tmod_eq_emod_of_nonneg z0]; omega)
        have i0' : (0 : Int) ≤ (i : Int) := by omega
        have i1' : (i : Int) < (zs.length : Int) := by omega
        have HE : Hid (z + 1 = k + ((i + 1 : Nat) : Int)) := (show z + 1 = k + ((i + 1 : Nat) : Int) by omega)
        have HFR : Hid (Fr [g] w wr) := hfr
        clear hth t0 hz hfr
        go_wp2
        refine ⟨⟨i + 1, z + 1, by omega, by simp, rfl, HE, HFR.out.setCell (p := ⟨g, i, none⟩) (by simp) _, World.there_setCells HTR.out g i [_], ?_⟩, by simp [intOf]; omega⟩
        refine (show ∀ q, q < i + 1 → _ from fun q hq => ?_)
        by_cases hqe : q = i
        · subst hqe
          rw [← HZ.out]
          exact World.cell?_setCell_same _ _ _ HX0.out
        · exact (World.cell?_setCell_other _ _ _ _ (fun e => hqe (by simpa using e.symm))).trans (HQ.out q (by omega))
      · have hie : i = zs.length := by omega
        subst hie
        have HFR : Hid _ := hfr
        clear hfr
        go_wp2
        go_ret
        refine ⟨by rw [HZ.out]; rfl, HFR.out, .inr ⟨by simpa [bf] using h0, g, c, by simp [bf], by simpa [bf] using hlc, hcm, by simpa [bf] using HTR.out, rfl, fun i hi => ?_⟩⟩
        have hi' : i < zs.length := by simpa [bf] using hi
        have := HQ.out i hi'
        simpa [bf] using this

set_option maxHeartbeats 2000000 in
theorem heldBoolS_any {v : Value} {n : Nat} {k : Int} {w : World} (h : GRep Value.bool w v (bf k n)) (hk0 : 0 ≤ k) (hk1 : k + n ≤ 33554432) :
    Calls Try.prog 56 #[v, .int .i64 k] w fun e w' => e = .returned (.int .i64 (k + n)) ∧ Below w.heap.size w w' := by
  obtain ⟨a, c, rfl, hlc, hcm, hcell⟩ := h
  have hl : (bf k n).length = n := by simp [bf]
  rw [hl] at hlc ⊢
  have HC : Hid (∀ i, i < n → ∃ b off, a = some ⟨b, off, none⟩ ∧ w.cell? ⟨b, off + i, none⟩ = some (.bool (b3 (k + (i : Int))))) := (show ∀ i, i < n → _ by
    intro i hi
    obtain ⟨b, off, ha, h0⟩ := hcell i (by rw [hl]; exact hi)
    exact ⟨b, off, ha, by simpa [bf] using h0⟩)
  clear hcell hl
  go_enter Try.func56, Try.ntmps56
  go_wp2
  go_loopw [1, 5] (fun o j wr => ∃ (i : Nat) (z : Int), i ≤ n ∧ j = .int .i64 i ∧ o = .int .i64 z ∧ Hid (z = k + (i : Int)) ∧ Below w.heap.size w wr) (fun _ j _ => n - (intOf j).toNat)
  case atStart => exact ⟨0, k, by omega, rfl, rfl, (show k = k + ((0 : Nat) : Int) by simp), Below.refl _ _⟩
  case round =>
    obtain ⟨i, z, hi, rfl, rfl, HZ, hbr⟩ := hrel
    by_cases hlt : i < n
    · obtain ⟨b, off, rfl, x0⟩ := HC.out i hlt
      replace x0 := cell_later hbr x0
      have hz := HZ.out
      rw [← hz] at x0
      unfold b3 at x0
      have v1 := w64 (z + 1) (by omega)
      have z0 : 0 ≤ z := by omega
      have v3 := w64 (Int.tmod z 3) (by rw [Int.tmod_eq_emod_of_nonneg z0]; omega)
      have i0' : (0 : Int) ≤ (i : Int) := by omega
      have i1' : (i : Int) < (n : Int) := by omega
      have HE : Hid (z + 1 = k + ((i + 1 : Nat) : Int)) := (show z + 1 = k + ((i + 1 : Nat) : Int) by omega)
      have HB : Hid (Below w.heap.size w wr) := hbr
      clear hbr hz
      go_wp2
      exact ⟨⟨i + 1, z + 1, by omega, by simp, rfl, HE, HB.out⟩, by simp [intOf]; omega⟩
    · have hie : i = n := by omega
      subst hie
      have HB : Hid (Below w.heap.size w wr) := hbr
      clear hbr
      go_wp2
      go_ret
      exact ⟨by rw [HZ.out]; rfl, HB.out⟩

end Go.Proofs.Ytpcmhkcahajdgaa
