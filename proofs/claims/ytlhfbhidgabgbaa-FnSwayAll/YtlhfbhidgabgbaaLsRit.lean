/- The iterator over all rows of bits: each row is new, and what lies in it is told at the yield. -/
import Derived.Test.YtlhfbhidgabgbaaLsLeg
import Derived.Test.YtlhfbhidgabgbaaLsRfy
import Derived.RangeFuncCalls
import Derived.RangeFuncLeaves
import Derived.Shelf.Abstract
import Derived.WalkKit
import Derived.OwnWalkIn
import Derived.TacticsInMore
import Derived.LoopNIn
import Derived.LoopIn
namespace Go.Proofs.Ytlhfbhidgabgbaa
open Go.RowKit
set_option linter.unusedSimpArgs false
set_option linter.unusedVariables false

/-- What a row of bits is where it is yielded: new since W1. -/
def BitsAt (vars k : Nat) (W1 W2 : World) : Prop :=
  Below W1.heap.size W1 W2 ∧ W2.ownsRow W1.heap.size 3 1 (.slice (some ⟨W1.heap.size, 0, none⟩) vars vars) vars ((bitsL k vars).map (Value.int .i64))

set_option maxHeartbeats 4000000 in
theorem bitRows1_any {n l vars B : Nat} (hv : vars ≤ 4) (h1 : 1 ≤ n) {J : Nat → World → Prop} {Jx : World → Prop} {W : World}
    (hJc : ∀ k W', J k W' → W'.cell? ⟨B, 0, none⟩ = some (.int .i64 (vars : Int)))
    (hY : ∀ k W1 W2, k < 2 ^ vars → J k W1 → BitsAt vars k W1 W2 →
      YieldAt Fence.wide (n - 1) Try.prog l #[.slice (some ⟨W1.heap.size, 0, none⟩) vars vars] W2 fun e W' => (e = .returned (.bool true) ∧ J (k + 1) W') ∨ (e = .returned (.bool false) ∧ Jx W'))
    (h0 : J 0 W) :
    CallsIn Fence.wide n Try.prog 104 #[.func (.yield l) #[] #[], .pointer (some ⟨B, 0, none⟩)] W fun e W' => (∃ v, e = .returned v) ∧ (J (2 ^ vars) W' ∨ Jx W') := by
  obtain ⟨N, hN⟩ : ∃ N, 2 ^ vars = N := ⟨_, rfl⟩
  have h16 : N ≤ 16 := by rw [← hN]; exact Nat.le_trans (Nat.pow_le_pow_right (by omega) hv) (by decide)
  have hw64 : wrap64 ((2 : Int) ^ vars) = (N : Int) := by
    have e : ((2 : Int) ^ vars) = (N : Int) := by rw [← hN]; simp
    rw [e]
    unfold wrap64; omega
  have hc0 := hJc 0 W h0
  have HY : Hid (∀ k W1 W2, k < N → J k W1 → BitsAt vars k W1 W2 →
      YieldAt Fence.wide (n - 1) Try.prog l #[.slice (some ⟨W1.heap.size, 0, none⟩) vars vars] W2 fun e W' => (e = .returned (.bool true) ∧ J (k + 1) W') ∨ (e = .returned (.bool false) ∧ Jx W')) := (show ∀ k W1 W2, _ from fun k W1 W2 hk => hY k W1 W2 (by rw [hN]; exact hk))
  have HJ0 : Hid (J 0 W) := h0
  have HJC : Hid (∀ k W', J k W' → W'.cell? ⟨B, 0, none⟩ = some (.int .i64 (vars : Int))) := hJc
  rw [hN]
  have HN : Hid (2 ^ vars = N) := hN
  clear hN hJc hY h0
  refine callsIn_of_wp Try.func104 rfl trivial ?_ rfl
  simp only [Try.ntmps104, List.size_toArray, List.length_cons, List.length_nil, Nat.reduceAdd, Nat.reduceSub, Array.replicate_succ, Array.replicate_zero, List.push_toArray, List.append_toArray, List.nil_append, List.cons_append]
  gi_wp2
  try rw [hw64]
  clear hw64
  gi_loopw [6] (fun j wr => ∃ (i : Nat), i ≤ N ∧ j = .int .i64 i ∧ J i wr) (fun j _ => N - (intOf j).toNat)
  case atStart => exact ⟨0, Nat.zero_le _, rfl, HJ0.out⟩
  case round =>
    obtain ⟨i, hi, rfl, hJi⟩ := hrel
    have HJI : Hid (J i wr) := hJi
    have hci := HJC.out i wr hJi
    clear hJi
    by_cases hlt : i < N
    · have i1' : (i : Int) < (N : Int) := by omega
      have KB : Hid _ := bitRow_any vars i hv (by omega) wr
      gi_wp2_with (refine ⟨trivial, ?_⟩; gi_at_call 105; refine (callsIn_wide.2 KB.out).mono ?_; rintro e wb ⟨rfl, hba, hrow⟩; obtain ⟨f1, t1, a1, b1, hy1, hR1⟩ := HY.out i wr wb hlt HJI.out ⟨hba, hrow⟩)
      refine hR1.mono ?_
      rintro e W1 (⟨rfl, hJ1⟩ | ⟨rfl, hx1⟩)
      · gi_wp2
        have hw : wrap64 ((i : Int) + 1) = ((i + 1 : Nat) : Int) := by unfold wrap64; omega
        try rw [hw]
        go_roundw
        case _ => exact ⟨i + 1, by omega, rfl, hJ1⟩
        all_goals first | omega | (simp [intOf]; omega)
      · gi_wp2
        refine bodyPost_ret (results_none rfl _ _ _) rfl ?_
        exact ⟨⟨_, rfl⟩, .inr hx1⟩
    · have i1' : ¬ (i : Int) < (N : Int) := by omega
      obtain rfl : i = N := by omega
      gi_wp2
      go_end0
      exact ⟨⟨_, rfl⟩, .inl HJI.out⟩

#print axioms bitRows1_any
end Go.Proofs.Ytlhfbhidgabgbaa
