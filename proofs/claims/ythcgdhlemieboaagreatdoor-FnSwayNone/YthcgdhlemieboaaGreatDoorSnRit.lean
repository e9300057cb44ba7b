/- The step with a number: of the program, and of the model. -/
import Derived.Test.YthcgdhlemieboaaGreatDoorSnCpx
import Derived.Test.YthcgdhlemieboaaGreatDoorSnImp
import Derived.Test.YthcgdhlemieboaaGreatDoorSnSrn
import Derived.Test.YthcgdhlemieboaaGreatDoorSnDpr
import Derived.Test.YthcgdhlemieboaaGreatDoorSnLbl
import Derived.Test.YthcgdhlemieboaaGreatDoorSnLeg
import Derived.Test.YthcgdhlemieboaaGreatDoorSnRfy
import Derived.RangeFuncCalls
import Derived.RangeFuncLeaves
import Derived.Shelf.Abstract
import Derived.WalkKit
import Derived.OwnWalkIn
import Derived.TacticsInMore
import Derived.LoopNIn
import Derived.LoopIn
namespace Go.Proofs.YthcgdhlemieboaaGreatDoor
open Go.RowKit
set_option linter.unusedSimpArgs false
set_option linter.unusedVariables false
attribute [local go_sem] World.cell?_alloc_some

theorem FlatR.get {W : World} : ∀ {fs : List Sg} {xs : List Value} {q : Nat} {x : Sg}, FlatR W fs xs → fs[q]? = some x → ∃ t e, (∀ j, j < 8 → xs[q * 8 + j]? = (cells8 x.2.1 t e)[j]?) ∧ Rep W x.1 t x.2.2.1 ∧ Rep W x.1 e x.2.2.2
  | [], _, _, _, _, hx => by simp at hx
  | y :: fs, xs, 0, x, h, hx => by
    obtain ⟨t, e, ys, rfl, r1, r2, h⟩ := h
    have : y = x := by simpa using hx
    subst this
    refine ⟨t, e, fun j hj => ?_, r1, r2⟩
    rw [List.getElem?_append_left (by simp [cells8]; omega), Nat.zero_mul, Nat.zero_add]
  | y :: fs, xs, q + 1, x, h, hx => by
    obtain ⟨t, e, ys, rfl, r1, r2, h⟩ := h
    obtain ⟨t', e', h1, h2, h3⟩ := FlatR.get h (by simpa using hx)
    refine ⟨t', e', fun j hj => ?_, h2, h3⟩
    rw [List.getElem?_append_right (by simp [cells8]; omega), ← h1 j hj]
    congr 1
    simp [cells8]; omega
theorem row_cells {w : World} {base : Nat} {e : TypeId} {g n c : Nat} {ys : List Value} (h : w.ownsRow base e 8 (.slice (some ⟨g, 0, none⟩) n c) n ys) {q : Nat} {p : Pay} {t u : Value} (hq : ∀ j, j < 8 → ys[q * 8 + j]? = (cells8 p t u)[j]?) : StepAt w g (q * 8) p t u := range8 (rows_range h hq rfl)

def zeroStep : Value := .agg #[.int .i64 0, .int .i64 0, .int .i64 0, .int .i64 0, .int .i64 0, .int .i64 0, .slice none 0 0, .slice none 0 0]
def stepOf (p : Pay) (t e : Value) : Value := .agg #[.int .i64 p.k, .int .i64 p.v, .int .i64 p.vk, .int .i64 p.va, .int .i64 p.vb, .int .i64 p.h, t, e]
def AtPost (w : World) (ls : List (Int × Int)) (d : Nat) (T : Tr d) (n : Int) (e : Ending) (w' : World) : Prop := Below w.heap.size w w' ∧
  (((progB ls d T && vIn (cnt d T) n) = true ∧ ∃ (x : Sg) (t' e' : Value) (b1 b2 : List Nat), (flat d T)[n.toNat]? = some x ∧ e = .returned (.tuple #[stepOf x.2.1 t' e', .bool true]) ∧ Own w' x.1 t' x.2.2.1 b1 ∧ Own w' x.1 e' x.2.2.2 b2 ∧ (∀ b ∈ b1 ++ b2, w.heap.size ≤ b ∧ b < w'.heap.size) ∧ (b1 ++ b2).Nodup) ∨
   ((progB ls d T && vIn (cnt d T) n) = false ∧ e = .returned (.tuple #[zeroStep, .bool false])))

end Go.Proofs.YthcgdhlemieboaaGreatDoor

namespace Go.Proofs.YthcgdhlemieboaaGreatDoor
open Go.RowKit
set_option linter.unusedSimpArgs false
set_option linter.unusedVariables false
attribute [local go_sem] World.cell?_alloc_some

theorem Oth.grown {r : Nat} {a w w' : World} {row : Option Nat} (h : Oth r a w) (hg : w.grownBy w' row) (hr : ∀ k, row = some k → a.heap.size ≤ k) : Oth r a w' :=
  ⟨hg.os.trans h.os, hg.tape.trans h.tape, hg.output.trans h.output, Nat.le_trans h.size hg.size, fun k hk hne => (hg.block k (Nat.lt_of_lt_of_le hk h.size) (fun e => by have := hr k e.symm; omega)).trans (h.block k hk hne)⟩
end Go.Proofs.YthcgdhlemieboaaGreatDoor

namespace Go.Proofs.YthcgdhlemieboaaGreatDoor
open Go.RowKit
set_option linter.unusedSimpArgs false
set_option linter.unusedVariables false
attribute [local go_sem] World.cell?_alloc_some

end Go.Proofs.YthcgdhlemieboaaGreatDoor

namespace Go.Proofs.YthcgdhlemieboaaGreatDoor
open Go.RowKit
set_option linter.unusedSimpArgs false
set_option linter.unusedVariables false
attribute [local go_sem ↓] Go.wp_at_zero Go.wp_at_succ

set_option maxHeartbeats 1000000 in
theorem labelBoth_any (ak at' bk bt : Int) (w : World) :
    Calls Tryz.prog 94 #[.agg #[.int .i64 ak, .int .i64 at'], .agg #[.int .i64 bk, .int .i64 bt]] w fun e w' => e = .returned (.agg #[.int .i64 (boK ak at' bk bt), .int .i64 (boT ak at' bk bt)]) ∧ Below w.heap.size w w' := by
  unfold boK boT
  cases ha : okB ak at'
  · go_enter Tryz.func94, Tryz.ntmps94
    go_wp2_with fail
    refine (labelOk_any _ _ _).mono ?_; rintro e w1 ⟨rfl, hb1⟩; obtain ⟨hc1, hf1⟩ := bcell hb1
    go_wp2
    refine bodyPost_ret (v := .agg #[.int .i64 0, .int .i64 0]) (by simp [results, Tryz.results94, go_sem, hc1]) rfl ⟨by simp [ha], ?_⟩
    clear hc1 hf1
    repeat' (first | exact Below.refl _ _ | assumption | (refine Below.drew ?_) | (refine Below.then ?_ (by assumption) ?_) | (refine Below.alloc ?_ ?_ _) | (refine Below.setCell ?_ ?_ _) | (simp; done) | (simp at *; omega) | omega)
  · cases hb : okB bk bt
    · go_enter Tryz.func94, Tryz.ntmps94
      go_wp2_with fail
      refine (labelOk_any _ _ _).mono ?_; rintro e w1 ⟨rfl, hb1⟩; obtain ⟨hc1, hf1⟩ := bcell hb1; have hz1 : w.heap.size + 2 < w1.heap.size := by have := hb1.size; simp at this; omega
      have hz2 : w.heap.size + 1 < w1.heap.size := by omega
      go_wp2_with fail
      refine (labelOk_any _ _ _).mono ?_; rintro e w2 ⟨rfl, hb2⟩; obtain ⟨hc2, hf2⟩ := bcell hb2
      go_wp2
      refine bodyPost_ret (v := .agg #[.int .i64 0, .int .i64 0]) (by simp [results, Tryz.results94, go_sem, hc1, hc2, hz1]) rfl ⟨by simp [ha, hb], ?_⟩
      clear hc1 hf1 hc2 hf2
      repeat' (first | exact Below.refl _ _ | assumption | (refine Below.drew ?_) | (refine Below.then ?_ (by assumption) ?_) | (refine Below.alloc ?_ ?_ _) | (refine Below.setCell ?_ ?_ _) | (simp; done) | (simp at *; omega) | omega)
    · have ia := okB_iff.1 ha
      have ib := okB_iff.1 hb
      go_enter Tryz.func94, Tryz.ntmps94
      go_wp2_with fail
      have c1 : (((w.alloc (.cells #[.int .i64 ak, .int .i64 at'] 68)).alloc (.cells #[.int .i64 bk, .int .i64 bt] 68)).alloc (.cells #[.int .i64 0, .int .i64 0] 68)).cell? ⟨w.heap.size, 0, none⟩ = some (.int .i64 ak) := by simp [go_sem]
      have c2 : (((w.alloc (.cells #[.int .i64 ak, .int .i64 at'] 68)).alloc (.cells #[.int .i64 bk, .int .i64 bt] 68)).alloc (.cells #[.int .i64 0, .int .i64 0] 68)).cell? ⟨w.heap.size, 1, none⟩ = some (.int .i64 at') := by simp [go_sem]
      have c3 : (((w.alloc (.cells #[.int .i64 ak, .int .i64 at'] 68)).alloc (.cells #[.int .i64 bk, .int .i64 bt] 68)).alloc (.cells #[.int .i64 0, .int .i64 0] 68)).cell? ⟨w.heap.size + 1, 0, none⟩ = some (.int .i64 bk) := by simp [go_sem]
      have c4 : (((w.alloc (.cells #[.int .i64 ak, .int .i64 at'] 68)).alloc (.cells #[.int .i64 bk, .int .i64 bt] 68)).alloc (.cells #[.int .i64 0, .int .i64 0] 68)).cell? ⟨w.heap.size + 1, 1, none⟩ = some (.int .i64 bt) := by simp [go_sem]
      have c5 : (((w.alloc (.cells #[.int .i64 ak, .int .i64 at'] 68)).alloc (.cells #[.int .i64 bk, .int .i64 bt] 68)).alloc (.cells #[.int .i64 0, .int .i64 0] 68)).cell? ⟨w.heap.size + 2, 0, none⟩ = some (cellAt (((w.alloc (.cells #[.int .i64 ak, .int .i64 at'] 68)).alloc (.cells #[.int .i64 bk, .int .i64 bt] 68)).alloc (.cells #[.int .i64 0, .int .i64 0] 68)) ⟨w.heap.size + 2, 0, none⟩) := cellAt_of (by simp [go_sem])
      have c6 : (((w.alloc (.cells #[.int .i64 ak, .int .i64 at'] 68)).alloc (.cells #[.int .i64 bk, .int .i64 bt] 68)).alloc (.cells #[.int .i64 0, .int .i64 0] 68)).cell? ⟨w.heap.size + 2, 1, none⟩ = some (cellAt (((w.alloc (.cells #[.int .i64 ak, .int .i64 at'] 68)).alloc (.cells #[.int .i64 bk, .int .i64 bt] 68)).alloc (.cells #[.int .i64 0, .int .i64 0] 68)) ⟨w.heap.size + 2, 1, none⟩) := cellAt_of (by simp [go_sem])
      have f5 : (((w.alloc (.cells #[.int .i64 ak, .int .i64 at'] 68)).alloc (.cells #[.int .i64 bk, .int .i64 bt] 68)).alloc (.cells #[.int .i64 0, .int .i64 0] 68)).frozen? ⟨w.heap.size + 2, 0, none⟩ = false := by simp [go_sem]
      have f6 : (((w.alloc (.cells #[.int .i64 ak, .int .i64 at'] 68)).alloc (.cells #[.int .i64 bk, .int .i64 bt] 68)).alloc (.cells #[.int .i64 0, .int .i64 0] 68)).frozen? ⟨w.heap.size + 2, 1, none⟩ = false := by simp [go_sem]
      refine (labelOk_any _ _ _).mono ?_; rintro e w1 ⟨rfl, hb1⟩
      have hz1 : w.heap.size + 2 < w1.heap.size := by have := hb1.size; simp at this; omega
      have B0 : Below w.heap.size w w1 := by
        clear c1 c2 c3 c4 c5 c6 f5 f6
        repeat' (first | exact Below.refl _ _ | assumption | (refine Below.drew ?_) | (refine Below.then ?_ (by assumption) ?_) | (refine Below.alloc ?_ ?_ _) | (refine Below.setCell ?_ ?_ _) | (simp; done) | (simp at *; omega) | omega)
      replace c1 := cell_later hb1 c1
      replace c2 := cell_later hb1 c2
      replace c3 := cell_later hb1 c3
      replace c4 := cell_later hb1 c4
      replace f5 := frozen_later hb1 c5 f5
      replace f6 := frozen_later hb1 c6 f6
      replace c5 := at_later hb1 c5
      replace c6 := at_later hb1 c6
      clear hb1
      go_wp2_with fail
      refine (labelOk_any _ _ _).mono ?_; rintro e w2 ⟨rfl, hb2⟩
      replace c1 := cell_later hb2 c1
      replace c2 := cell_later hb2 c2
      replace c3 := cell_later hb2 c3
      replace c4 := cell_later hb2 c4
      replace f5 := frozen_later hb2 c5 f5
      replace f6 := frozen_later hb2 c6 f6
      replace c5 := at_later hb2 c5
      replace c6 := at_later hb2 c6
      replace B0 : Below w.heap.size w w2 := Below.then B0 hb2 (by omega)
      clear hb2 hz1
      go_wp2_with fail
      go_region_held3 (fun w' => w'.cell? ⟨w.heap.size, 0, none⟩ = some (.int .i64 ak) ∧ w'.cell? ⟨w.heap.size, 1, none⟩ = some (.int .i64 at') ∧ w'.cell? ⟨w.heap.size + 1, 0, none⟩ = some (.int .i64 bk) ∧ w'.cell? ⟨w.heap.size + 1, 1, none⟩ = some (.int .i64 bt) ∧ w'.cell? ⟨w.heap.size + 2, 0, none⟩ = some (cellAt w' ⟨w.heap.size + 2, 0, none⟩) ∧ w'.cell? ⟨w.heap.size + 2, 1, none⟩ = some (cellAt w' ⟨w.heap.size + 2, 1, none⟩) ∧ w'.frozen? ⟨w.heap.size + 2, 0, none⟩ = false ∧ w'.frozen? ⟨w.heap.size + 2, 1, none⟩ = false ∧ Below w.heap.size w w')
        (first | (go_split_ands; refine ⟨?_, ?_, ?_, ?_, ?_, ?_, ?_, ?_, ?_⟩ <;> first | assumption | exact cell_later (by assumption) (by assumption) | exact at_later (by assumption) (by assumption) | exact at_drew (by assumption) | exact at_set (at_set (by assumption)) | exact frozen_later (by assumption) (by assumption) (by assumption) | exact Below.then (by assumption) (by assumption) (Below.size (by assumption)) | exact Below.drew (by assumption) | exact Below.setCell (Below.setCell (by assumption) (by show w.heap.size ≤ w.heap.size + 2; omega) _) (by show w.heap.size ≤ w.heap.size + 2; omega) _ | exact Below.drew (Below.setCell (Below.setCell (by assumption) (by show w.heap.size ≤ w.heap.size + 2; omega) _) (by show w.heap.size ≤ w.heap.size + 2; omega) _) | (simp [*]; done) | (simp [*, go_sem, World.cell?_setCell_far]; done)))
        (first
          | (go_at_call 53; refine (knowers_any _ _ _).mono ?_; rintro e w' ⟨rfl, hbx⟩)
          | (go_at_call 59; refine (trusters_any _ _ _).mono ?_; rintro e w' ⟨rfl, hbx⟩)
          | (go_at_call 57; refine (labelOf_any _ _ _).mono ?_; rintro e w' ⟨rfl, hbx⟩)
          | (go_at_call 108; refine (common_any _ _ _ (by omega) (by omega) (by omega) (by omega)).mono ?_; rintro e w' ⟨rfl, rfl⟩))
      all_goals go_wp2
      all_goals
        go_split_ands
        refine bodyPost_ret (v := .agg #[.int .i64 (andI ak bk), .int .i64 (andI at' bt)]) (by simp [results, Tryz.results94, go_sem, at_undrew, *]; first | done | (refine ⟨set2a ?_, set2b ?_⟩ <;> first | (show (w2.cell? ⟨w.heap.size + 2, 0, none⟩).isSome = true; simp [c5]; done) | (show (w2.cell? ⟨w.heap.size + 2, 1, none⟩).isSome = true; simp [c6]; done) | ((repeat (refine isSome_later (by assumption) ?_)) <;> first | (show (w2.drew.cell? ⟨w.heap.size + 2, 0, none⟩).isSome = true; simp [c5]; done) | (show (w2.drew.cell? ⟨w.heap.size + 2, 1, none⟩).isSome = true; simp [c6]; done)))) rfl ⟨by simp [ha, hb], by assumption⟩

end Go.Proofs.YthcgdhlemieboaaGreatDoor

namespace Go.Proofs.YthcgdhlemieboaaGreatDoor
open Go.RowKit
set_option linter.unusedSimpArgs false
set_option linter.unusedVariables false

def BitsAt (vars k : Nat) (W1 W2 : World) : Prop :=
  Below W1.heap.size W1 W2 ∧ W2.ownsRow W1.heap.size 3 1 (.slice (some ⟨W1.heap.size, 0, none⟩) vars vars) vars ((bitsL k vars).map (Value.int .i64))

set_option maxHeartbeats 4000000 in
theorem bitRows1_any {n l vars B : Nat} (hv : vars ≤ 4) (h1 : 1 ≤ n) {J : Nat → World → Prop} {Jx : World → Prop} {W : World}
    (hJc : ∀ k W', J k W' → W'.cell? ⟨B, 0, none⟩ = some (.int .i64 (vars : Int)))
    (hY : ∀ k W1 W2, k < 2 ^ vars → J k W1 → BitsAt vars k W1 W2 →
      YieldAt Fence.wide (n - 1) Tryz.prog l #[.slice (some ⟨W1.heap.size, 0, none⟩) vars vars] W2 fun e W' => (e = .returned (.bool true) ∧ J (k + 1) W') ∨ (e = .returned (.bool false) ∧ Jx W'))
    (h0 : J 0 W) :
    CallsIn Fence.wide n Tryz.prog 73 #[.func (.yield l) #[] #[], .pointer (some ⟨B, 0, none⟩)] W fun e W' => (∃ v, e = .returned v) ∧ (J (2 ^ vars) W' ∨ Jx W') := by
  obtain ⟨N, hN⟩ : ∃ N, 2 ^ vars = N := ⟨_, rfl⟩
  have h16 : N ≤ 16 := by rw [← hN]; exact Nat.le_trans (Nat.pow_le_pow_right (by omega) hv) (by decide)
  have hw64 : wrap64 ((2 : Int) ^ vars) = (N : Int) := by
    have e : ((2 : Int) ^ vars) = (N : Int) := by rw [← hN]; simp
    rw [e]
    unfold wrap64; omega
  have hc0 := hJc 0 W h0
  have HY : Hid (∀ k W1 W2, k < N → J k W1 → BitsAt vars k W1 W2 →
      YieldAt Fence.wide (n - 1) Tryz.prog l #[.slice (some ⟨W1.heap.size, 0, none⟩) vars vars] W2 fun e W' => (e = .returned (.bool true) ∧ J (k + 1) W') ∨ (e = .returned (.bool false) ∧ Jx W')) := (show ∀ k W1 W2, _ from fun k W1 W2 hk => hY k W1 W2 (by rw [hN]; exact hk))
  have HJ0 : Hid (J 0 W) := h0
  have HJC : Hid (∀ k W', J k W' → W'.cell? ⟨B, 0, none⟩ = some (.int .i64 (vars : Int))) := hJc
  rw [hN]
  have HN : Hid (2 ^ vars = N) := hN
  clear hN hJc hY h0
  refine callsIn_of_wp Tryz.func73 rfl trivial ?_ rfl
  simp only [Tryz.ntmps73, List.size_toArray, List.length_cons, List.length_nil, Nat.reduceAdd, Nat.reduceSub, Array.replicate_succ, Array.replicate_zero, List.push_toArray, List.append_toArray, List.nil_append, List.cons_append]
  gi_wp2
  try rw [hw64]
  clear hw64
  gi_loopw [6] (fun j wr => ∃ (i : Nat), i ≤ N ∧ j = .int .i64 i ∧ J i wr) (fun j _ => N - (intOf j).toNat)
  case atStart => exact ⟨0, Nat.zero_le _, rfl, HJ0.out⟩
  case round =>
    obtain ⟨i, hi, rfl, hJi⟩ := hrel
    have HJI : Hid (J i wr) := hJi
    have hci := HJC.out i wr hJi
    clear hJi
    by_cases hlt : i < N
    · have i1' : (i : Int) < (N : Int) := by omega
      have KB : Hid _ := bitRow_any vars i hv (by omega) wr
      gi_wp2_with (refine ⟨trivial, ?_⟩; gi_at_call 74; refine (callsIn_wide.2 KB.out).mono ?_; rintro e wb ⟨rfl, hba, hrow⟩; obtain ⟨f1, t1, a1, b1, hy1, hR1⟩ := HY.out i wr wb hlt HJI.out ⟨hba, hrow⟩)
      refine hR1.mono ?_
      rintro e W1 (⟨rfl, hJ1⟩ | ⟨rfl, hx1⟩)
      · gi_wp2
        have hw : wrap64 ((i : Int) + 1) = ((i + 1 : Nat) : Int) := by unfold wrap64; omega
        try rw [hw]
        go_roundw
        case _ => exact ⟨i + 1, by omega, rfl, hJ1⟩
        all_goals first | omega | (simp [intOf]; omega)
      · gi_wp2
        refine bodyPost_ret (results_none rfl _ _ _) rfl ?_
        exact ⟨⟨_, rfl⟩, .inr hx1⟩
    · have i1' : ¬ (i : Int) < (N : Int) := by omega
      obtain rfl : i = N := by omega
      gi_wp2
      go_end0
      exact ⟨⟨_, rfl⟩, .inl HJI.out⟩

end Go.Proofs.YthcgdhlemieboaaGreatDoor
