/- Contracts of the functions on sets of hosts. -/
import Derived.Test.YthcgdhlemieboaaGreatTkLab
import Derived.Deep.RegionHeld3
import Derived.Deep.DrawnRows
namespace Go.Proofs.YthcgdhlemieboaaGreat
open Go.RowKit
set_option linter.unusedSimpArgs false
set_option linter.unusedVariables false

theorem all8 {P : Int → Prop} (h : ∀ n : Fin 8, P ((n.val : Nat) : Int)) (s : Int) (h0 : 0 ≤ s) (h7 : s ≤ 7) : P s := by
  have := h ⟨s.toNat, by omega⟩
  simpa [Int.toNat_of_nonneg h0] using this

theorem all3 {P : Int → Prop} (h : ∀ n : Fin 3, P ((n.val : Nat) : Int)) (s : Int) (h0 : 0 ≤ s) (h7 : s ≤ 2) : P s := by
  have := h ⟨s.toNat, by omega⟩
  simpa [Int.toNat_of_nonneg h0] using this

theorem all88 {P : Int → Int → Prop} (h : ∀ n m : Fin 8, P ((n.val : Nat) : Int) ((m.val : Nat) : Int)) {a b : Int} (a0 : 0 ≤ a) (a7 : a ≤ 7) (b0 : 0 ≤ b) (b7 : b ≤ 7) : P a b :=
  all8 (P := fun a => P a b) (fun n => all8 (P := fun b => P n.val b) (h n) b b0 b7) a a0 a7

theorem all83 {P : Int → Int → Prop} (h : ∀ (n : Fin 8) (m : Fin 3), P ((n.val : Nat) : Int) ((m.val : Nat) : Int)) {a b : Int} (a0 : 0 ≤ a) (a7 : a ≤ 7) (b0 : 0 ≤ b) (b7 : b ≤ 2) : P a b :=
  all8 (P := fun a => P a b) (fun n => all3 (P := fun b => P n.val b) (h n) b b0 b7) a a0 a7

theorem wrap_shl (x : Int) (k : Nat) (h : 0 ≤ x ∧ x ≤ 7) (hk : k ≤ 2) : wrap64 (x + wrap64 (2 ^ k)) = x + 2 ^ k := by
  have h1 : (2 : Int) ^ k ≤ 8 := by
    have : ∀ k : Fin 4, (2 : Int) ^ k.val ≤ 8 := by decide
    exact this ⟨k, by omega⟩
  have h0 : (0 : Int) < 2 ^ k := Int.pow_pos (by decide)
  rw [IntWalk.wrap64_in (2 ^ k) ⟨by omega, by omega⟩, IntWalk.wrap64_in _ ⟨by omega, by omega⟩]

def andI (a b : Int) : Int := ((a.toNat &&& b.toNat : Nat) : Int)

def orI (a b : Int) : Int := ((a.toNat ||| b.toNat : Nat) : Int)

def hasB (s h : Int) : Bool := s / 2 ^ h.toNat % 2 == 1

def andTo (a b : Int) (k : Nat) : Int := andI a b % 2 ^ k

theorem bits_or {a b : Int} (a0 : 0 ≤ a) (a7 : a ≤ 7) (b0 : 0 ≤ b) (b7 : b ≤ 7) : bits .or .i64 a b = orI a b :=
  all88 (P := fun a b => bits .or .i64 a b = orI a b) (by decide +kernel) a0 a7 b0 b7

theorem has_bits {s h : Int} (s0 : 0 ≤ s) (s7 : s ≤ 7) (h0 : 0 ≤ h) (h2 : h ≤ 2) : (bits .and .i64 (s / 2 ^ h.toNat) 1 == 1) = hasB s h :=
  all83 (P := fun s h => (bits .and .i64 (s / 2 ^ h.toNat) 1 == 1) = hasB s h) (by decide +kernel) s0 s7 h0 h2

theorem has_mod {s h : Int} (s0 : 0 ≤ s) : ((s / 2 ^ h.toNat).tmod 2 == 1) = hasB s h := by
  unfold hasB
  rw [Int.tmod_eq_emod_of_nonneg (Int.ediv_nonneg s0 (Int.pow_nonneg (by decide)))]

theorem andTo_succ {a b : Int} {k : Nat} (a0 : 0 ≤ a) (a7 : a ≤ 7) (b0 : 0 ≤ b) (b7 : b ≤ 7) (k2 : k ≤ 2) :
    andTo a b (k + 1) = andTo a b k + if hasB a k && hasB b k then 2 ^ k else 0 := by
  have : ∀ k : Fin 3, ∀ n m : Fin 8, andTo n.val m.val (k.val + 1) = andTo n.val m.val k.val + if hasB n.val k.val && hasB m.val k.val then 2 ^ k.val else 0 := by decide +kernel
  exact all88 (P := fun a b => andTo a b (k + 1) = andTo a b k + if hasB a k && hasB b k then 2 ^ k else 0) (this ⟨k, by omega⟩) a0 a7 b0 b7

theorem andTo_three {a b : Int} (a0 : 0 ≤ a) (a7 : a ≤ 7) (b0 : 0 ≤ b) (b7 : b ≤ 7) : andTo a b 3 = andI a b :=
  all88 (P := fun a b => andTo a b 3 = andI a b) (by decide +kernel) a0 a7 b0 b7

theorem andTo_bd (a b : Int) (k : Nat) (k3 : k ≤ 3) : 0 ≤ andTo a b k ∧ andTo a b k ≤ 7 := by
  unfold andTo
  have h1 : (2 : Int) ^ k ≤ 8 := by
    have : ∀ k : Fin 4, (2 : Int) ^ k.val ≤ 8 := by decide
    exact this ⟨k, by omega⟩
  have h0 : (0 : Int) < 2 ^ k := Int.pow_pos (by decide)
  have := Int.emod_nonneg (andI a b) (by omega : (2 : Int) ^ k ≠ 0)
  have := Int.emod_lt_of_pos (andI a b) h0
  omega

theorem andI_bd {a b : Int} (a0 : 0 ≤ a) (a7 : a ≤ 7) (b0 : 0 ≤ b) (b7 : b ≤ 7) : 0 ≤ andI a b ∧ andI a b ≤ 7 := by
  rw [← andTo_three a0 a7 b0 b7]
  exact andTo_bd a b 3 (by omega)

def covB (s t : Int) : Bool := andI s t == t

theorem has_any (s h : Int) (w : World) (s0 : 0 ≤ s) (s7 : s ≤ 7) (h0 : 0 ≤ h) (h1 : h ≤ 2) :
    Calls Tryz.prog 67 #[.int .i64 s, .int .i64 h] w fun e w' => e = .returned (.bool (hasB s h)) ∧ w' = w := by
  rw [← has_bits s0 s7 h0 h1]
  go_enter Tryz.func67, Tryz.ntmps67
  go_wp2
  go_ret
  exact ⟨rfl, rfl⟩

theorem l1Has_any (s h : Int) (w : World) (s0 : 0 ≤ s) (s7 : s ≤ 7) (h0 : 0 ≤ h) (h1 : h ≤ 2) :
    Calls Tryz.prog 44 #[.int .i64 s, .int .i64 h] w fun e w' => e = .returned (.bool (hasB s h)) ∧ w' = w := by
  rw [← has_mod s0]
  go_enter Tryz.func44, Tryz.ntmps44
  go_wp2
  go_ret
  exact ⟨rfl, rfl⟩

theorem l1Both_any (a b : Int) (w : World) (a0 : 0 ≤ a) (a7 : a ≤ 7) (b0 : 0 ≤ b) (b7 : b ≤ 7) :
    Calls Tryz.prog 92 #[.int .i64 a, .int .i64 b] w fun e w' => e = .returned (.int .i64 (andI a b)) ∧ w' = w := by
  have HE : Hid (andTo a b 3 = andI a b) := andTo_three a0 a7 b0 b7
  go_enter Tryz.func92, Tryz.ntmps92
  go_wp2
  go_loop [5, 6] (fun o i => ∃ k : Nat, k ≤ 3 ∧ i = .int .i64 k ∧ o = .int .i64 (andTo a b k)) (fun _ i => 3 - (intOf i).toNat)
  case atStart => exact ⟨0, by omega, rfl, by simp [andTo, Int.emod_one]⟩
  case round =>
    obtain ⟨k, hk, rfl, rfl⟩ := hrel
    by_cases hlt : k < 3
    · have HS : Hid (andTo a b (k + 1) = andTo a b k + if hasB a k && hasB b k then 2 ^ k else 0) := andTo_succ a0 a7 b0 b7 (by omega)
      have hbd := andTo_bd a b k (by omega)
      cases ha : hasB a k
      · go_wp2_with (go_at_call 44; refine (l1Has_any _ _ _ (by omega) (by omega) (by omega) (by omega)).mono ?_; rintro e w1 ⟨rfl, rfl⟩)
        go_round
        case rel => exact ⟨k + 1, by omega, by go_num, by rw [HS.out]; simp [ha]⟩
        case measure => simp [intOf]; omega
      · cases hb : hasB b k
        · go_wp2_with (go_at_call 44; refine (l1Has_any _ _ _ (by omega) (by omega) (by omega) (by omega)).mono ?_; rintro e w1 ⟨rfl, rfl⟩)
          go_round
          case rel => exact ⟨k + 1, by omega, by go_num, by rw [HS.out]; simp [ha, hb]⟩
          case measure => simp [intOf]; omega
        · go_wp2_with (go_at_call 44; refine (l1Has_any _ _ _ (by omega) (by omega) (by omega) (by omega)).mono ?_; rintro e w1 ⟨rfl, rfl⟩)
          go_round
          case rel => exact ⟨k + 1, by omega, by go_num, by rw [HS.out, wrap_shl _ _ hbd (by omega)]; simp [ha, hb]⟩
          case measure => simp [intOf]; omega
    · have : k = 3 := by omega
      subst this
      go_wp2
      go_ret
      exact ⟨by rw [← HE.out]; rfl, rfl⟩

def inTo (a b : Int) (k : Nat) : Bool := (List.range k).all fun h => !hasB a h || hasB b h

theorem inTo_succ (a b : Int) (k : Nat) : inTo a b (k + 1) = (inTo a b k && (!hasB a k || hasB b k)) := by
  simp [inTo, List.range_succ]

theorem inTo_three {a b : Int} (a0 : 0 ≤ a) (a7 : a ≤ 7) (b0 : 0 ≤ b) (b7 : b ≤ 7) : inTo a b 3 = covB b a :=
  all88 (P := fun a b => inTo a b 3 = covB b a) (by decide +kernel) a0 a7 b0 b7

theorem inTo_false {a b : Int} {k : Nat} (a0 : 0 ≤ a) (a7 : a ≤ 7) (b0 : 0 ≤ b) (b7 : b ≤ 7) (hk : k < 3) (h : (!hasB a k || hasB b k) = false) : covB b a = false := by
  rw [← inTo_three a0 a7 b0 b7]
  simp only [inTo, List.all_eq_false]
  exact ⟨k, List.mem_range.2 hk, by simp [h]⟩

theorem l1Within_any (a b : Int) (w : World) (a0 : 0 ≤ a) (a7 : a ≤ 7) (b0 : 0 ≤ b) (b7 : b ≤ 7) :
    Calls Tryz.prog 97 #[.int .i64 a, .int .i64 b] w fun e w' => e = .returned (.bool (covB b a)) ∧ w' = w := by
  have HE : Hid (inTo a b 3 = covB b a) := inTo_three a0 a7 b0 b7
  go_enter Tryz.func97, Tryz.ntmps97
  go_wp2
  go_loop [5] (fun i => ∃ k : Nat, k ≤ 3 ∧ i = .int .i64 k ∧ Hid (inTo a b k = true)) (fun i => 3 - (intOf i).toNat)
  case atStart => exact ⟨0, by omega, rfl, (show inTo a b 0 = true from rfl)⟩
  case round =>
    obtain ⟨k, hk, rfl, HT⟩ := hrel
    by_cases hlt : k < 3
    · have HS : Hid (inTo a b (k + 1) = (inTo a b k && (!hasB a k || hasB b k))) := inTo_succ a b k
      cases ha : hasB a k
      · go_wp2_with (go_at_call 44; refine (l1Has_any _ _ _ (by omega) (by omega) (by omega) (by omega)).mono ?_; rintro e w1 ⟨rfl, rfl⟩)
        go_round
        case rel => exact ⟨k + 1, by omega, by go_num, by show inTo a b (k + 1) = true; rw [HS.out, HT.out]; simp [ha]⟩
        case measure => simp [intOf]; omega
      · cases hb : hasB b k
        · have HF : Hid (covB b a = false) := inTo_false a0 a7 b0 b7 hlt (by simp [ha, hb])
          go_wp2_with (go_at_call 44; refine (l1Has_any _ _ _ (by omega) (by omega) (by omega) (by omega)).mono ?_; rintro e w1 ⟨rfl, rfl⟩)
          go_ret
          exact ⟨by rw [HF.out]; rfl, rfl⟩
        · go_wp2_with (go_at_call 44; refine (l1Has_any _ _ _ (by omega) (by omega) (by omega) (by omega)).mono ?_; rintro e w1 ⟨rfl, rfl⟩)
          go_round
          case rel => exact ⟨k + 1, by omega, by go_num, by show inTo a b (k + 1) = true; rw [HS.out, HT.out]; simp [ha, hb]⟩
          case measure => simp [intOf]; omega
    · have : k = 3 := by omega
      subst this
      go_wp2
      go_ret
      exact ⟨by rw [← HE.out, HT.out]; rfl, rfl⟩

end Go.Proofs.YthcgdhlemieboaaGreat

namespace Go.Proofs.YthcgdhlemieboaaGreat
open Go.RowKit
set_option linter.unusedSimpArgs false
set_option linter.unusedVariables false
attribute [local go_sem] World.cell?_alloc_some
attribute [local go_sem ↓] Go.wp_at_zero Go.wp_at_succ

def flB (ak at' bk bt : Int) : Bool := okB ak at' && okB bk bt && covB ak bk && covB at' bt

theorem okB_iff {k t : Int} : okB k t = true ↔ (0 ≤ k ∧ k ≤ 7) ∧ (0 ≤ t ∧ t ≤ 7) := by simp [okB, inB_iff]

theorem sLabelFlows_any (ak at' bk bt : Int) (w : World) :
    Calls Tryz.prog 89 #[.agg #[.int .i64 ak, .int .i64 at'], .agg #[.int .i64 bk, .int .i64 bt]] w fun e w' => e = .returned (.bool (flB ak at' bk bt)) ∧ Below w.heap.size w w' := by
  unfold flB
  cases ha : okB ak at'
  · go_enter Tryz.func89, Tryz.ntmps89
    go_wp2_with fail
    refine (sLabelOk_any _ _ _).mono ?_; rintro e w1 ⟨rfl, hb1⟩
    go_wp2
    go_ret
    refine ⟨by simp [ha], ?_⟩
    repeat' (first | exact Below.refl _ _ | assumption | (refine Below.drew ?_) | (refine Below.then ?_ (by assumption) ?_) | (refine Below.alloc ?_ ?_ _) | (refine Below.setCell ?_ ?_ _) | (simp; done) | (simp at *; omega) | omega)
  · cases hb : okB bk bt
    · go_enter Tryz.func89, Tryz.ntmps89
      go_wp2_with fail
      refine (sLabelOk_any _ _ _).mono ?_; rintro e w1 ⟨rfl, hb1⟩; obtain ⟨hc1, hf1⟩ := bcell hb1; have hz1 : w.heap.size + 1 < w1.heap.size := by have := hb1.size; simp at this; omega
      go_wp2_with fail
      refine (sLabelOk_any _ _ _).mono ?_; rintro e w2 ⟨rfl, hb2⟩
      go_wp2
      go_ret
      refine ⟨by simp [ha, hb], ?_⟩
      clear hc1 hf1
      repeat' (first | exact Below.refl _ _ | assumption | (refine Below.drew ?_) | (refine Below.then ?_ (by assumption) ?_) | (refine Below.alloc ?_ ?_ _) | (refine Below.setCell ?_ ?_ _) | (simp; done) | (simp at *; omega) | omega)
    · have ia := okB_iff.1 ha
      have ib := okB_iff.1 hb
      cases hc : covB ak bk
      all_goals
        go_enter Tryz.func89, Tryz.ntmps89
        go_wp2_with fail
        refine (sLabelOk_any _ _ _).mono ?_; rintro e w1 ⟨rfl, hb1⟩; obtain ⟨hc1, hf1⟩ := bcell hb1; have hz1 : w.heap.size + 1 < w1.heap.size := by have := hb1.size; simp at this; omega
        have hz1' : w.heap.size < w1.heap.size := by omega
        go_wp2_with fail
        refine (sLabelOk_any _ _ _).mono ?_; rintro e w2 ⟨rfl, hb2⟩; obtain ⟨hc2, hf2⟩ := bcell hb2
        go_wp2_with (go_at_call 97; refine (l1Within_any _ _ _ (by omega) (by omega) (by omega) (by omega)).mono ?_; rintro e w3 ⟨rfl, rfl⟩)
        go_ret
        refine ⟨by simp [ha, hb, hc], ?_⟩
        clear hc1 hf1 hc2 hf2
        repeat' (first | exact Below.refl _ _ | assumption | (refine Below.drew ?_) | (refine Below.then ?_ (by assumption) ?_) | (refine Below.alloc ?_ ?_ _) | (refine Below.setCell ?_ ?_ _) | (simp; done) | (simp at *; omega) | omega)

end Go.Proofs.YthcgdhlemieboaaGreat

namespace Go.Proofs.YthcgdhlemieboaaGreat
open Go.RowKit
set_option linter.unusedSimpArgs false
set_option linter.unusedVariables false
attribute [local go_sem ↓] Go.wp_at_zero Go.wp_at_succ

def cellAt (w : World) (a : Addr) : Value := (w.cell? a).getD undef

theorem cellAt_of {w : World} {a : Addr} (h : (w.cell? a).isSome = true) : w.cell? a = some (cellAt w a) := by
  obtain ⟨u, hu⟩ := Option.isSome_iff_exists.1 h
  rw [cellAt, hu]; rfl

theorem at_later {w wx : World} {a : Addr} (hb : Below w.heap.size w wx) (h : w.cell? a = some (cellAt w a)) : wx.cell? a = some (cellAt wx a) := by
  have := cell_later hb h
  rw [cellAt, this]; rfl

theorem at_drew {w : World} {a : Addr} (h : w.cell? a = some (cellAt w a)) : w.drew.cell? a = some (cellAt w.drew a) := by
  apply cellAt_of; simp [h]

theorem at_set {w : World} {a b : Addr} {v : Value} (h : w.cell? a = some (cellAt w a)) : (w.setCell b v).cell? a = some (cellAt (w.setCell b v) a) := by
  apply cellAt_of
  by_cases e : b = a
  · subst e
    rw [World.cell?_setCell_same w b v h]; rfl
  · rw [World.cell?_setCell_other w b a v e, h]; rfl

theorem frozen_later {w wx : World} {a : Addr} {v : Value} (hb : Below w.heap.size w wx) (h : w.cell? a = some v) (hf : w.frozen? a = false) : wx.frozen? a = false :=
  (hb.frozen (World.block_lt_of_cell? _ _ h)).trans hf

theorem isSome_later {w wx : World} {a : Addr} (hb : Below w.heap.size w wx) (h : (w.cell? a).isSome = true) : (wx.cell? a).isSome = true := by
  obtain ⟨u, hu⟩ := Option.isSome_iff_exists.1 h
  rw [cell_later hb hu]; rfl

theorem set2a {w : World} {b : Nat} {v0 v1 : Value} (h0 : (w.cell? ⟨b, 0, none⟩).isSome = true) : cellAt ((w.setCell ⟨b, 0, none⟩ v0).setCell ⟨b, 1, none⟩ v1) ⟨b, 0, none⟩ = v0 := by
  obtain ⟨u, hu⟩ := Option.isSome_iff_exists.1 h0
  rw [cellAt, World.cell?_setCell_other _ _ _ _ (by simp), World.cell?_setCell_same _ _ _ hu]; rfl

theorem set2b {w : World} {b : Nat} {v0 v1 : Value} (h1 : (w.cell? ⟨b, 1, none⟩).isSome = true) : cellAt ((w.setCell ⟨b, 0, none⟩ v0).setCell ⟨b, 1, none⟩ v1) ⟨b, 1, none⟩ = v1 := by
  obtain ⟨u, hu⟩ := Option.isSome_iff_exists.1 h1
  rw [cellAt, World.cell?_setCell_same _ _ _ ((World.cell?_setCell_other _ _ _ _ (by simp)).trans hu)]; rfl

theorem at_undrew {w : World} {a : Addr} : cellAt w.drew a = cellAt w a := by simp [cellAt]

def boK (ak at' bk bt : Int) : Int := if okB ak at' && okB bk bt then andI ak bk else 0

def boT (ak at' bk bt : Int) : Int := if okB ak at' && okB bk bt then andI at' bt else 0

def eiK (ak at' bk bt : Int) : Int := if okB ak at' && okB bk bt then orI ak bk else 0

def eiT (ak at' bk bt : Int) : Int := if okB ak at' && okB bk bt then orI at' bt else 0

end Go.Proofs.YthcgdhlemieboaaGreat

namespace Go.Proofs.YthcgdhlemieboaaGreat
open Go.RowKit
set_option linter.unusedSimpArgs false
set_option linter.unusedVariables false
attribute [local go_sem ↓] Go.wp_at_zero Go.wp_at_succ

set_option maxHeartbeats 1000000 in
theorem sLabelBoth_any (ak at' bk bt : Int) (w : World) :
    Calls Tryz.prog 90 #[.agg #[.int .i64 ak, .int .i64 at'], .agg #[.int .i64 bk, .int .i64 bt]] w fun e w' => e = .returned (.agg #[.int .i64 (boK ak at' bk bt), .int .i64 (boT ak at' bk bt)]) ∧ Below w.heap.size w w' := by
  unfold boK boT
  cases ha : okB ak at'
  · go_enter Tryz.func90, Tryz.ntmps90
    go_wp2_with fail
    refine (sLabelOk_any _ _ _).mono ?_; rintro e w1 ⟨rfl, hb1⟩; obtain ⟨hc1, hf1⟩ := bcell hb1
    go_wp2
    refine bodyPost_ret (v := .agg #[.int .i64 0, .int .i64 0]) (by simp [results, Tryz.results90, go_sem, hc1]) rfl ⟨by simp [ha], ?_⟩
    clear hc1 hf1
    repeat' (first | exact Below.refl _ _ | assumption | (refine Below.drew ?_) | (refine Below.then ?_ (by assumption) ?_) | (refine Below.alloc ?_ ?_ _) | (refine Below.setCell ?_ ?_ _) | (simp; done) | (simp at *; omega) | omega)
  · cases hb : okB bk bt
    · go_enter Tryz.func90, Tryz.ntmps90
      go_wp2_with fail
      refine (sLabelOk_any _ _ _).mono ?_; rintro e w1 ⟨rfl, hb1⟩; obtain ⟨hc1, hf1⟩ := bcell hb1; have hz1 : w.heap.size + 2 < w1.heap.size := by have := hb1.size; simp at this; omega
      have hz2 : w.heap.size + 1 < w1.heap.size := by omega
      go_wp2_with fail
      refine (sLabelOk_any _ _ _).mono ?_; rintro e w2 ⟨rfl, hb2⟩; obtain ⟨hc2, hf2⟩ := bcell hb2
      go_wp2
      refine bodyPost_ret (v := .agg #[.int .i64 0, .int .i64 0]) (by simp [results, Tryz.results90, go_sem, hc1, hc2, hz1]) rfl ⟨by simp [ha, hb], ?_⟩
      clear hc1 hf1 hc2 hf2
      repeat' (first | exact Below.refl _ _ | assumption | (refine Below.drew ?_) | (refine Below.then ?_ (by assumption) ?_) | (refine Below.alloc ?_ ?_ _) | (refine Below.setCell ?_ ?_ _) | (simp; done) | (simp at *; omega) | omega)
    · have ia := okB_iff.1 ha
      have ib := okB_iff.1 hb
      go_enter Tryz.func90, Tryz.ntmps90
      go_wp2_with fail
      have c1 : (((w.alloc (.cells #[.int .i64 ak, .int .i64 at'] 59)).alloc (.cells #[.int .i64 bk, .int .i64 bt] 59)).alloc (.cells #[.int .i64 0, .int .i64 0] 59)).cell? ⟨w.heap.size, 0, none⟩ = some (.int .i64 ak) := by simp [go_sem]
      have c2 : (((w.alloc (.cells #[.int .i64 ak, .int .i64 at'] 59)).alloc (.cells #[.int .i64 bk, .int .i64 bt] 59)).alloc (.cells #[.int .i64 0, .int .i64 0] 59)).cell? ⟨w.heap.size, 1, none⟩ = some (.int .i64 at') := by simp [go_sem]
      have c3 : (((w.alloc (.cells #[.int .i64 ak, .int .i64 at'] 59)).alloc (.cells #[.int .i64 bk, .int .i64 bt] 59)).alloc (.cells #[.int .i64 0, .int .i64 0] 59)).cell? ⟨w.heap.size + 1, 0, none⟩ = some (.int .i64 bk) := by simp [go_sem]
      have c4 : (((w.alloc (.cells #[.int .i64 ak, .int .i64 at'] 59)).alloc (.cells #[.int .i64 bk, .int .i64 bt] 59)).alloc (.cells #[.int .i64 0, .int .i64 0] 59)).cell? ⟨w.heap.size + 1, 1, none⟩ = some (.int .i64 bt) := by simp [go_sem]
      have c5 : (((w.alloc (.cells #[.int .i64 ak, .int .i64 at'] 59)).alloc (.cells #[.int .i64 bk, .int .i64 bt] 59)).alloc (.cells #[.int .i64 0, .int .i64 0] 59)).cell? ⟨w.heap.size + 2, 0, none⟩ = some (cellAt (((w.alloc (.cells #[.int .i64 ak, .int .i64 at'] 59)).alloc (.cells #[.int .i64 bk, .int .i64 bt] 59)).alloc (.cells #[.int .i64 0, .int .i64 0] 59)) ⟨w.heap.size + 2, 0, none⟩) := cellAt_of (by simp [go_sem])
      have c6 : (((w.alloc (.cells #[.int .i64 ak, .int .i64 at'] 59)).alloc (.cells #[.int .i64 bk, .int .i64 bt] 59)).alloc (.cells #[.int .i64 0, .int .i64 0] 59)).cell? ⟨w.heap.size + 2, 1, none⟩ = some (cellAt (((w.alloc (.cells #[.int .i64 ak, .int .i64 at'] 59)).alloc (.cells #[.int .i64 bk, .int .i64 bt] 59)).alloc (.cells #[.int .i64 0, .int .i64 0] 59)) ⟨w.heap.size + 2, 1, none⟩) := cellAt_of (by simp [go_sem])
      have f5 : (((w.alloc (.cells #[.int .i64 ak, .int .i64 at'] 59)).alloc (.cells #[.int .i64 bk, .int .i64 bt] 59)).alloc (.cells #[.int .i64 0, .int .i64 0] 59)).frozen? ⟨w.heap.size + 2, 0, none⟩ = false := by simp [go_sem]
      have f6 : (((w.alloc (.cells #[.int .i64 ak, .int .i64 at'] 59)).alloc (.cells #[.int .i64 bk, .int .i64 bt] 59)).alloc (.cells #[.int .i64 0, .int .i64 0] 59)).frozen? ⟨w.heap.size + 2, 1, none⟩ = false := by simp [go_sem]
      refine (sLabelOk_any _ _ _).mono ?_; rintro e w1 ⟨rfl, hb1⟩
      have hz1 : w.heap.size + 2 < w1.heap.size := by have := hb1.size; simp at this; omega
      have B0 : Below w.heap.size w w1 := by
        clear c1 c2 c3 c4 c5 c6 f5 f6
        repeat' (first | exact Below.refl _ _ | assumption | (refine Below.drew ?_) | (refine Below.then ?_ (by assumption) ?_) | (refine Below.alloc ?_ ?_ _) | (refine Below.setCell ?_ ?_ _) | (simp; done) | (simp at *; omega) | omega)
      replace c1 := cell_later hb1 c1
      replace c2 := cell_later hb1 c2
      replace c3 := cell_later hb1 c3
      replace c4 := cell_later hb1 c4
      replace f5 := frozen_later hb1 c5 f5
      replace f6 := frozen_later hb1 c6 f6
      replace c5 := at_later hb1 c5
      replace c6 := at_later hb1 c6
      clear hb1
      go_wp2_with fail
      refine (sLabelOk_any _ _ _).mono ?_; rintro e w2 ⟨rfl, hb2⟩
      replace c1 := cell_later hb2 c1
      replace c2 := cell_later hb2 c2
      replace c3 := cell_later hb2 c3
      replace c4 := cell_later hb2 c4
      replace f5 := frozen_later hb2 c5 f5
      replace f6 := frozen_later hb2 c6 f6
      replace c5 := at_later hb2 c5
      replace c6 := at_later hb2 c6
      replace B0 : Below w.heap.size w w2 := Below.then B0 hb2 (by omega)
      clear hb2 hz1
      go_wp2_with fail
      go_region_held3 (fun w' => w'.cell? ⟨w.heap.size, 0, none⟩ = some (.int .i64 ak) ∧ w'.cell? ⟨w.heap.size, 1, none⟩ = some (.int .i64 at') ∧ w'.cell? ⟨w.heap.size + 1, 0, none⟩ = some (.int .i64 bk) ∧ w'.cell? ⟨w.heap.size + 1, 1, none⟩ = some (.int .i64 bt) ∧ w'.cell? ⟨w.heap.size + 2, 0, none⟩ = some (cellAt w' ⟨w.heap.size + 2, 0, none⟩) ∧ w'.cell? ⟨w.heap.size + 2, 1, none⟩ = some (cellAt w' ⟨w.heap.size + 2, 1, none⟩) ∧ w'.frozen? ⟨w.heap.size + 2, 0, none⟩ = false ∧ w'.frozen? ⟨w.heap.size + 2, 1, none⟩ = false ∧ Below w.heap.size w w')
        (first | (go_split_ands; refine ⟨?_, ?_, ?_, ?_, ?_, ?_, ?_, ?_, ?_⟩ <;> first | assumption | exact cell_later (by assumption) (by assumption) | exact at_later (by assumption) (by assumption) | exact at_drew (by assumption) | exact at_set (at_set (by assumption)) | exact frozen_later (by assumption) (by assumption) (by assumption) | exact Below.then (by assumption) (by assumption) (Below.size (by assumption)) | exact Below.drew (by assumption) | exact Below.setCell (Below.setCell (by assumption) (by show w.heap.size ≤ w.heap.size + 2; omega) _) (by show w.heap.size ≤ w.heap.size + 2; omega) _ | exact Below.drew (Below.setCell (Below.setCell (by assumption) (by show w.heap.size ≤ w.heap.size + 2; omega) _) (by show w.heap.size ≤ w.heap.size + 2; omega) _) | (simp [*]; done) | (simp [*, go_sem, World.cell?_setCell_far]; done)))
        (first
          | (go_at_call 92; refine (l1Both_any _ _ _ (by omega) (by omega) (by omega) (by omega)).mono ?_; rintro e w' ⟨rfl, rfl⟩))
      all_goals go_wp2
      all_goals
        go_split_ands
        refine bodyPost_ret (v := .agg #[.int .i64 (andI ak bk), .int .i64 (andI at' bt)]) (by simp [results, Tryz.results90, go_sem, at_undrew, *]; first | done | (refine ⟨set2a ?_, set2b ?_⟩ <;> first | (show (w2.cell? ⟨w.heap.size + 2, 0, none⟩).isSome = true; simp [c5]; done) | (show (w2.cell? ⟨w.heap.size + 2, 1, none⟩).isSome = true; simp [c6]; done) | ((repeat (refine isSome_later (by assumption) ?_)) <;> first | (show (w2.drew.cell? ⟨w.heap.size + 2, 0, none⟩).isSome = true; simp [c5]; done) | (show (w2.drew.cell? ⟨w.heap.size + 2, 1, none⟩).isSome = true; simp [c6]; done)))) rfl ⟨by simp [ha, hb], by assumption⟩

end Go.Proofs.YthcgdhlemieboaaGreat
