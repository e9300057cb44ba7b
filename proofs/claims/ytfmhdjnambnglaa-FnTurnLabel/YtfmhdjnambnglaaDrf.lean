/- Drawn pairs of labels, and single ones. -/
import Derived.Test.YtfmhdjnambnglaaOdd
import Derived.Test.YtfmhdjnambnglaaLbl
import Derived.Deep.DrawnRows
namespace Go.Proofs.Ytfmhdjnambnglaa
open Go.RowKit
set_option linter.unusedSimpArgs false
set_option linter.unusedVariables false
attribute [local go_sem ↓] Go.wp_at_zero Go.wp_at_succ

def Sm (k : Int) : Prop := -1 ≤ k ∧ k ≤ 8

theorem boK_sm (a b c d : Int) : Sm (boK a b c d) := by
  unfold boK
  split
  · rename_i h
    simp only [Bool.and_eq_true, okB_iff] at h
    have := andI_bd h.1.1.1 h.1.1.2 h.2.1.1 h.2.1.2
    exact ⟨by omega, by omega⟩
  · exact ⟨by omega, by omega⟩
theorem boT_sm (a b c d : Int) : Sm (boT a b c d) := by
  unfold boT
  split
  · rename_i h
    simp only [Bool.and_eq_true, okB_iff] at h
    have := andI_bd h.1.2.1 h.1.2.2 h.2.2.1 h.2.2.2
    exact ⟨by omega, by omega⟩
  · exact ⟨by omega, by omega⟩
theorem IsRow.below {k : IntKind} {w w' : World} {a : Option Addr} {len cap : Nat} {zs : List Int} (h : IsRow k w a len cap zs) (hb : Below w.heap.size w w') : IsRow k w' a len cap zs := by
  rcases h with h | ⟨x, h0, h1, h2, h3, h4, h5⟩
  · exact .inl h
  · exact .inr ⟨x, h0, h1, h2, h3, fun i hi => cell_later hb (h4 i hi), h5⟩

set_option maxHeartbeats 4000000 in
theorem drawFlows_any (w : World) (a0 : Option Addr) (len0 cap0 : Nat) (zs : List Int) (h : IsRow .u8 w a0 len0 cap0 zs) :
    Calls Try.prog 19 #[.slice a0 len0 cap0] w fun e w' => ∃ ak at' bk bt, e = .returned (.tuple #[.agg #[.int .i64 ak, .int .i64 at'], .agg #[.int .i64 bk, .int .i64 bt]]) ∧ (Sm ak ∧ Sm at' ∧ Sm bk ∧ Sm bt) ∧ Below w.heap.size w w' := by
  go_enter Try.func19, Try.ntmps19
  go_wp2_with fail
  refine (l6Open_any _ a0 len0 cap0 zs (h.below (((Below.refl _ _).alloc (Nat.le_refl _) _).alloc (by simp) _))).mono ?_
  rintro e w1 ⟨rfl, hR, hs, hb⟩
  have PA := ((Pair.new w 0 0 32).alloc (.cells #[.int .i64 0, .int .i64 0] 32)).below hb
  have PB := (Pair.new (w.alloc (.cells #[.int .i64 0, .int .i64 0] 32)) 0 0 32).below hb
  have HB : Hid (Below w.heap.size w w1) := (((Below.refl _ _).alloc (Nat.le_refl _) _).alloc (by simp) _).trans (hb.mono (by simp; omega))
  have HR : Hid (Rdr w1 (w.heap.size + 2) 0) := (show Rdr w1 (w.heap.size + 2) 0 by simpa using hR)
  clear hR hb
  simp at hs PB
  go_wp2_with fail
  refine (l71Odd_any _ (w.heap.size + 2) 0 HR.out (by omega)).mono ?_
  rintro e w2 ⟨ak, at', rfl, ha, ⟨q, hq, hR2⟩, hO⟩
  replace PA := PA.oth hO (by omega)
  replace PB := PB.oth hO (by omega)
  have hs2 := hO.size
  replace HB : Hid (Below w.heap.size w w2) := HB.out.trans (hO.below (by omega) (by omega))
  replace HR : Hid (Rdr w2 (w.heap.size + 2) q) := hR2
  clear hO hR2
  go_wp2_with fail
  refine (l71Odd_any _ (w.heap.size + 2) q (HR.out.alloc _) (by omega)).mono ?_
  rintro e w3 ⟨bk, bt, rfl, hbk, ⟨q2, hq2, hR3⟩, hO⟩
  have P5 := (Pair.new w2 ak at' 32).oth hO (by omega)
  replace PA := (PA.alloc _).oth hO (by omega)
  replace PB := (PB.alloc _).oth hO (by omega)
  have hs3 : w2.heap.size + 1 ≤ w3.heap.size := by have := hO.size; simpa using this
  replace HB : Hid (Below w.heap.size w w3) := (HB.out.alloc (by omega) _).trans (hO.below (by omega) (by simp; omega))
  replace HR : Hid (Rdr w3 (w.heap.size + 2) q2) := hR3
  clear hO hR3
  go_wp2_with fail
  refine (pick_r _ (w.heap.size + 2) q2 3 (HR.out.alloc _) (by omega) (by omega) (by omega)).mono ?_
  rintro e w4 ⟨n, rfl, n0, n1, hR4, hO⟩
  have P6 := (Pair.new w3 bk bt 32).oth hO (by omega)
  replace P5 := (P5.alloc _).oth hO (by omega)
  replace PA := (PA.alloc _).oth hO (by omega)
  replace PB := (PB.alloc _).oth hO (by omega)
  have hs4 : w3.heap.size + 1 ≤ w4.heap.size := by have := hO.size; simpa using this
  replace HB : Hid (Below w.heap.size w w4) := (HB.out.alloc (by omega) _).trans (hO.below (by omega) (by simp; omega))
  clear hO hR4 HR
  by_cases hn : n = 0
  · subst hn
    go_wp2_with fail
    have n5 : ¬ w2.heap.size = w.heap.size := by omega
    have n6 : ¬ w3.heap.size = w.heap.size := by omega
    have n7 : ¬ w2.heap.size = w.heap.size + 1 := by omega
    have n8 : ¬ w3.heap.size = w.heap.size + 1 := by omega
    obtain ⟨x0, x1, _, _⟩ := P5
    obtain ⟨y0, y1, _, _⟩ := P6
    obtain ⟨z0, z1, g0, g1⟩ := PA
    obtain ⟨v0, v1, f0, f1⟩ := PB
    go_region_with (first
      | (go_at_call 57; refine (sLabelBoth_any _ _ _ _ _).mono ?_; rintro e w5 ⟨rfl, hbx⟩; have x0 := cell_later hbx x0; have x1 := cell_later hbx x1; have f0 := frozen_later hbx v0 f0; have f1 := frozen_later hbx v1 f1; have g0 := frozen_later hbx z0 g0; have g1 := frozen_later hbx z1 g1; have z0 := cell_later hbx z0; have z1 := cell_later hbx z1; have v0 := cell_later hbx v0; have v1 := cell_later hbx v1))
    all_goals go_wp2
    all_goals
      refine bodyPost_ret (v := .tuple #[.agg #[.int .i64 ak, .int .i64 at'], .agg #[.int .i64 (boK ak at' bk bt), .int .i64 (boT ak at' bk bt)]]) (by simp [results, Try.results19, go_sem, z0, z1, v0, v1]) rfl ⟨ak, at', boK ak at' bk bt, boT ak at' bk bt, rfl, ⟨ha.1, ha.2, boK_sm _ _ _ _, boT_sm _ _ _ _⟩, ?_⟩
      have HB' := HB.out
      have HB2 := HB'.size
      clear HB x0 x1 y0 y1 z0 z1 v0 v1 f0 f1 g0 g1
      repeat' (first | exact Below.refl _ _ | assumption | (refine Below.drew ?_) | (refine Below.then ?_ (by assumption) ?_) | (refine Below.alloc ?_ ?_ _) | (refine Below.setCell ?_ ?_ _) | (simp; done) | (simp at *; omega) | omega)
  · have hnb : (n == 0) = false := by simpa using hn
    obtain ⟨x0, x1, _, _⟩ := P5
    obtain ⟨y0, y1, _, _⟩ := P6
    obtain ⟨z0, z1, g0, g1⟩ := PA
    obtain ⟨v0, v1, f0, f1⟩ := PB
    go_wp2
    go_region
    go_wp2
    refine bodyPost_ret (v := .tuple #[.agg #[.int .i64 ak, .int .i64 at'], .agg #[.int .i64 bk, .int .i64 bt]]) (by simp [results, Try.results19, go_sem, z0, z1, v0, v1]) rfl ⟨ak, at', bk, bt, rfl, ⟨ha.1, ha.2, hbk.1, hbk.2⟩, ?_⟩
    have HB' := HB.out
    clear HB
    repeat' (first | exact Below.refl _ _ | assumption | (refine Below.drew ?_) | (refine Below.then ?_ (by assumption) ?_) | (refine Below.alloc ?_ ?_ _) | (refine Below.setCell ?_ ?_ _) | (simp; done) | (simp at *; omega) | omega)

end Go.Proofs.Ytfmhdjnambnglaa
