/- What came of a drawn program, and some variables, as the model draws them. -/
import Derived.Test.YthcgdhlemieboaaGreatTkTsh
import Derived.Test.YthcgdhlemieboaaGreatTkLeg
import Derived.Test.YthcgdhlemieboaaGreatTkRfy
import Derived.RangeFuncCalls
import Derived.RangeFuncLeaves
import Derived.Shelf.Abstract
import Derived.WalkKit
import Derived.OwnWalkIn
import Derived.TacticsInMore
import Derived.LoopNIn
import Derived.LoopIn
import Derived.Test.YthcgdhlemieboaaGreatTkLeh
import Derived.Test.YthcgdhlemieboaaGreatTkLeb
import Derived.Deep.RegionHeld3
import Derived.Deep.DrawnRows
import Derived.Test.YthcgdhlemieboaaGreatTkLcx
import Derived.Test.YthcgdhlemieboaaGreatTkKnw
import Derived.Test.YthcgdhlemieboaaGreatTkTle
namespace Go.Proofs.YthcgdhlemieboaaGreat
open Go.RowKit
set_option linter.unusedSimpArgs false
set_option linter.unusedVariables false
attribute [local go_sem] World.cell?_alloc_some

theorem R3.mono {B B' : Nat} {w : World} {nv wv sv : Value} {s : RSt} (h : R3 B w nv wv sv s) (hB : B' ≤ B) : R3 B' w nv wv sv s := by
  have q : ∀ {e : TypeId} {sz : Nat} {v : Value} {n : Nat} {xs : List Value}, w.ownsRow B e sz v n xs → w.ownsRow B' e sz v n xs := by
    intro e sz v n xs h
    obtain ⟨q0, q1 | ⟨g, cap, cur, hv, hg, r⟩⟩ := h
    · exact ⟨q0, .inl q1⟩
    · exact ⟨q0, .inr ⟨g, cap, cur, hv, by omega, r⟩⟩
  exact ⟨q h.n, q h.ws, q h.ss, h.nw, h.ns, h.sw⟩
theorem doT_vars : ∀ (d : Nat) (T : Tr d) (n : Nat) (deep : Int) (s : RSt), stB n d deep T = true → (∀ x ∈ s.ws, vIn n x.1 = true) → ∀ x ∈ (doT d T s).ws, vIn n x.1 = true
  | 0, _, _, _, s, _, h => h
  | d + 1, (l : List (Pay × Tr d × Tr d)), n, deep, s, hs, h => by
    show ∀ x ∈ (l.foldl (fun s x => stepS (doT d) x s) s).ws, vIn n x.1 = true
    have hs' : (l.all fun x => decide (1 ≤ deep) && payB n x.1 (decide (ln d x.2.1 + ln d x.2.2 = 0)) && (stB n d (deep - 1) x.2.1 && stB n d (deep - 1) x.2.2)) = true := hs
    clear hs
    induction l generalizing s with
    | nil => exact h
    | cons y l ih =>
      rw [List.all_cons, Bool.and_eq_true_iff] at hs'
      obtain ⟨hx, hr⟩ := hs'
      simp only [Bool.and_eq_true_iff] at hx
      obtain ⟨⟨_, hp⟩, h1, h2⟩ := hx
      rw [List.foldl_cons]
      refine ih _ ?_ hr
      have hv : vIn n y.1.v = true := by unfold payB at hp; simp only [Bool.and_eq_true_iff] at hp; exact hp.1
      unfold stepS
      split
      · intro x hx
        rcases List.mem_append.1 hx with hx | hx
        · exact h x hx
        · obtain rfl : x = _ := by simpa using hx
          exact hv
      · split
        · exact h
        · split
          · exact doT_vars d _ n _ s h1 h
          · exact doT_vars d _ n _ s h2 h
def DrsPost (w : World) (e : Ending) (w' : World) : Prop := ∃ (a b c : Value) (s : RSt) (vv : Value) (vs : List Bool), e = .returned (.tuple #[.agg #[a, b, c], vv]) ∧ Below w.heap.size w w' ∧ R3 (w.heap.size + 1) w' a b c s ∧ GRep Value.bool w' vv vs ∧ (∀ x ∈ s.ws, vIn vs.length x.1 = true) ∧ s.ws.length ≤ 1048576 ∧ vs.length ≤ 4

end Go.Proofs.YthcgdhlemieboaaGreat

namespace Go.Proofs.YthcgdhlemieboaaGreat
open Go.RowKit
set_option linter.unusedSimpArgs false
set_option linter.unusedVariables false

def BitsAt (vars k : Nat) (W1 W2 : World) : Prop :=
  Below W1.heap.size W1 W2 ∧ W2.ownsRow W1.heap.size 3 1 (.slice (some ⟨W1.heap.size, 0, none⟩) vars vars) vars ((bitsL k vars).map (Value.int .i64))

set_option maxHeartbeats 4000000 in
theorem bitRows1_any {n l vars B : Nat} (hv : vars ≤ 4) (h1 : 1 ≤ n) {J : Nat → World → Prop} {Jx : World → Prop} {W : World}
    (hJc : ∀ k W', J k W' → W'.cell? ⟨B, 0, none⟩ = some (.int .i64 (vars : Int)))
    (hY : ∀ k W1 W2, k < 2 ^ vars → J k W1 → BitsAt vars k W1 W2 →
      YieldAt Fence.wide (n - 1) Tryz.prog l #[.slice (some ⟨W1.heap.size, 0, none⟩) vars vars] W2 fun e W' => (e = .returned (.bool true) ∧ J (k + 1) W') ∨ (e = .returned (.bool false) ∧ Jx W'))
    (h0 : J 0 W) :
    CallsIn Fence.wide n Tryz.prog 68 #[.func (.yield l) #[] #[], .pointer (some ⟨B, 0, none⟩)] W fun e W' => (∃ v, e = .returned v) ∧ (J (2 ^ vars) W' ∨ Jx W') := by
  obtain ⟨N, hN⟩ : ∃ N, 2 ^ vars = N := ⟨_, rfl⟩
  have h16 : N ≤ 16 := by rw [← hN]; exact Nat.le_trans (Nat.pow_le_pow_right (by omega) hv) (by decide)
  have hw64 : wrap64 ((2 : Int) ^ vars) = (N : Int) := by
    have e : ((2 : Int) ^ vars) = (N : Int) := by rw [← hN]; simp
    rw [e]
    unfold wrap64; omega
  have hc0 := hJc 0 W h0
  have HY : Hid (∀ k W1 W2, k < N → J k W1 → BitsAt vars k W1 W2 →
      YieldAt Fence.wide (n - 1) Tryz.prog l #[.slice (some ⟨W1.heap.size, 0, none⟩) vars vars] W2 fun e W' => (e = .returned (.bool true) ∧ J (k + 1) W') ∨ (e = .returned (.bool false) ∧ Jx W')) := (show ∀ k W1 W2, _ from fun k W1 W2 hk => hY k W1 W2 (by rw [hN]; exact hk))
  have HJ0 : Hid (J 0 W) := h0
  have HJC : Hid (∀ k W', J k W' → W'.cell? ⟨B, 0, none⟩ = some (.int .i64 (vars : Int))) := hJc
  rw [hN]
  have HN : Hid (2 ^ vars = N) := hN
  clear hN hJc hY h0
  refine callsIn_of_wp Tryz.func68 rfl trivial ?_ rfl
  simp only [Tryz.ntmps68, List.size_toArray, List.length_cons, List.length_nil, Nat.reduceAdd, Nat.reduceSub, Array.replicate_succ, Array.replicate_zero, List.push_toArray, List.append_toArray, List.nil_append, List.cons_append]
  gi_wp2
  try rw [hw64]
  clear hw64
  gi_loopw [6] (fun j wr => ∃ (i : Nat), i ≤ N ∧ j = .int .i64 i ∧ J i wr) (fun j _ => N - (intOf j).toNat)
  case atStart => exact ⟨0, Nat.zero_le _, rfl, HJ0.out⟩
  case round =>
    obtain ⟨i, hi, rfl, hJi⟩ := hrel
    have HJI : Hid (J i wr) := hJi
    have hci := HJC.out i wr hJi
    clear hJi
    by_cases hlt : i < N
    · have i1' : (i : Int) < (N : Int) := by omega
      have KB : Hid _ := bitRow_any vars i hv (by omega) wr
      gi_wp2_with (refine ⟨trivial, ?_⟩; gi_at_call 69; refine (callsIn_wide.2 KB.out).mono ?_; rintro e wb ⟨rfl, hba, hrow⟩; obtain ⟨f1, t1, a1, b1, hy1, hR1⟩ := HY.out i wr wb hlt HJI.out ⟨hba, hrow⟩)
      refine hR1.mono ?_
      rintro e W1 (⟨rfl, hJ1⟩ | ⟨rfl, hx1⟩)
      · gi_wp2
        have hw : wrap64 ((i : Int) + 1) = ((i + 1 : Nat) : Int) := by unfold wrap64; omega
        try rw [hw]
        go_roundw
        case _ => exact ⟨i + 1, by omega, rfl, hJ1⟩
        all_goals first | omega | (simp [intOf]; omega)
      · gi_wp2
        refine bodyPost_ret (results_none rfl _ _ _) rfl ?_
        exact ⟨⟨_, rfl⟩, .inr hx1⟩
    · have i1' : ¬ (i : Int) < (N : Int) := by omega
      obtain rfl : i = N := by omega
      gi_wp2
      go_end0
      exact ⟨⟨_, rfl⟩, .inl HJI.out⟩

end Go.Proofs.YthcgdhlemieboaaGreat

namespace Go.Proofs.YthcgdhlemieboaaGreat
open Go.RowKit
set_option linter.unusedSimpArgs false
set_option linter.unusedVariables false
attribute [local go_sem] World.cell?_alloc_some

end Go.Proofs.YthcgdhlemieboaaGreat

namespace Go.Proofs.YthcgdhlemieboaaGreat
open Go.RowKit
set_option linter.unusedSimpArgs false
set_option linter.unusedVariables false
attribute [local go_sem] World.cell?_alloc_some

end Go.Proofs.YthcgdhlemieboaaGreat

namespace Go.Proofs.YthcgdhlemieboaaGreat
open Go.RowKit
set_option linter.unusedSimpArgs false
set_option linter.unusedVariables false
attribute [local go_sem] World.cell?_alloc_some

def movTo (zs : List Int) (ls : List (Int × Int)) (k : Nat) : List (Int × Int) := (List.range k).foldl (fun o i => o.set (zs.getD i 0).toNat (ls.getD i (0, 0))) (List.replicate ls.length (0, 0))
def movL (zs : List Int) (ls : List (Int × Int)) : List (Int × Int) := movTo zs ls ls.length
end Go.Proofs.YthcgdhlemieboaaGreat
