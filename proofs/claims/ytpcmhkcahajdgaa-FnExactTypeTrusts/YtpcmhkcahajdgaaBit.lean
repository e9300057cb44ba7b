/- Contracts of the functions on sets of hosts. -/
import Derived.Test.YtpcmhkcahajdgaaLab
namespace Go.Proofs.Ytpcmhkcahajdgaa
open Go.RowKit
set_option linter.unusedSimpArgs false
set_option linter.unusedVariables false

theorem all8 {P : Int → Prop} (h : ∀ n : Fin 8, P ((n.val : Nat) : Int)) (s : Int) (h0 : 0 ≤ s) (h7 : s ≤ 7) : P s := by
  have := h ⟨s.toNat, by omega⟩
  simpa [Int.toNat_of_nonneg h0] using this

theorem all3 {P : Int → Prop} (h : ∀ n : Fin 3, P ((n.val : Nat) : Int)) (s : Int) (h0 : 0 ≤ s) (h7 : s ≤ 2) : P s := by
  have := h ⟨s.toNat, by omega⟩
  simpa [Int.toNat_of_nonneg h0] using this

theorem all88 {P : Int → Int → Prop} (h : ∀ n m : Fin 8, P ((n.val : Nat) : Int) ((m.val : Nat) : Int)) {a b : Int} (a0 : 0 ≤ a) (a7 : a ≤ 7) (b0 : 0 ≤ b) (b7 : b ≤ 7) : P a b :=
  all8 (P := fun a => P a b) (fun n => all8 (P := fun b => P n.val b) (h n) b b0 b7) a a0 a7

theorem all83 {P : Int → Int → Prop} (h : ∀ (n : Fin 8) (m : Fin 3), P ((n.val : Nat) : Int) ((m.val : Nat) : Int)) {a b : Int} (a0 : 0 ≤ a) (a7 : a ≤ 7) (b0 : 0 ≤ b) (b7 : b ≤ 2) : P a b :=
  all8 (P := fun a => P a b) (fun n => all3 (P := fun b => P n.val b) (h n) b b0 b7) a a0 a7

theorem wrap_shl (x : Int) (k : Nat) (h : 0 ≤ x ∧ x ≤ 7) (hk : k ≤ 2) : wrap64 (x + wrap64 (2 ^ k)) = x + 2 ^ k := by
  have h1 : (2 : Int) ^ k ≤ 8 := by
    have : ∀ k : Fin 4, (2 : Int) ^ k.val ≤ 8 := by decide
    exact this ⟨k, by omega⟩
  have h0 : (0 : Int) < 2 ^ k := Int.pow_pos (by decide)
  rw [IntWalk.wrap64_in (2 ^ k) ⟨by omega, by omega⟩, IntWalk.wrap64_in _ ⟨by omega, by omega⟩]

def andI (a b : Int) : Int := ((a.toNat &&& b.toNat : Nat) : Int)

def orI (a b : Int) : Int := ((a.toNat ||| b.toNat : Nat) : Int)

def hasB (s h : Int) : Bool := s / 2 ^ h.toNat % 2 == 1

def andTo (a b : Int) (k : Nat) : Int := andI a b % 2 ^ k

theorem bits_and {a b : Int} (a0 : 0 ≤ a) (a7 : a ≤ 7) (b0 : 0 ≤ b) (b7 : b ≤ 7) : bits .and .i64 a b = andI a b :=
  all88 (P := fun a b => bits .and .i64 a b = andI a b) (by decide +kernel) a0 a7 b0 b7

theorem bits_or {a b : Int} (a0 : 0 ≤ a) (a7 : a ≤ 7) (b0 : 0 ≤ b) (b7 : b ≤ 7) : bits .or .i64 a b = orI a b :=
  all88 (P := fun a b => bits .or .i64 a b = orI a b) (by decide +kernel) a0 a7 b0 b7

theorem has_bits {s h : Int} (s0 : 0 ≤ s) (s7 : s ≤ 7) (h0 : 0 ≤ h) (h2 : h ≤ 2) : (bits .and .i64 (s / 2 ^ h.toNat) 1 == 1) = hasB s h :=
  all83 (P := fun s h => (bits .and .i64 (s / 2 ^ h.toNat) 1 == 1) = hasB s h) (by decide +kernel) s0 s7 h0 h2

theorem has_mod {s h : Int} (s0 : 0 ≤ s) : ((s / 2 ^ h.toNat).tmod 2 == 1) = hasB s h := by
  unfold hasB
  rw [Int.tmod_eq_emod_of_nonneg (Int.ediv_nonneg s0 (Int.pow_nonneg (by decide)))]

theorem andTo_succ {a b : Int} {k : Nat} (a0 : 0 ≤ a) (a7 : a ≤ 7) (b0 : 0 ≤ b) (b7 : b ≤ 7) (k2 : k ≤ 2) :
    andTo a b (k + 1) = andTo a b k + if hasB a k && hasB b k then 2 ^ k else 0 := by
  have : ∀ k : Fin 3, ∀ n m : Fin 8, andTo n.val m.val (k.val + 1) = andTo n.val m.val k.val + if hasB n.val k.val && hasB m.val k.val then 2 ^ k.val else 0 := by decide +kernel
  exact all88 (P := fun a b => andTo a b (k + 1) = andTo a b k + if hasB a k && hasB b k then 2 ^ k else 0) (this ⟨k, by omega⟩) a0 a7 b0 b7

theorem andTo_three {a b : Int} (a0 : 0 ≤ a) (a7 : a ≤ 7) (b0 : 0 ≤ b) (b7 : b ≤ 7) : andTo a b 3 = andI a b :=
  all88 (P := fun a b => andTo a b 3 = andI a b) (by decide +kernel) a0 a7 b0 b7

theorem andTo_bd (a b : Int) (k : Nat) (k3 : k ≤ 3) : 0 ≤ andTo a b k ∧ andTo a b k ≤ 7 := by
  unfold andTo
  have h1 : (2 : Int) ^ k ≤ 8 := by
    have : ∀ k : Fin 4, (2 : Int) ^ k.val ≤ 8 := by decide
    exact this ⟨k, by omega⟩
  have h0 : (0 : Int) < 2 ^ k := Int.pow_pos (by decide)
  have := Int.emod_nonneg (andI a b) (by omega : (2 : Int) ^ k ≠ 0)
  have := Int.emod_lt_of_pos (andI a b) h0
  omega

theorem andI_comm (a b : Int) : andI a b = andI b a := by unfold andI; rw [Nat.and_comm]

theorem orI_comm (a b : Int) : orI a b = orI b a := by unfold orI; rw [Nat.or_comm]

theorem or_eq {a b : Int} (a0 : 0 ≤ a) (a7 : a ≤ 7) (b0 : 0 ≤ b) (b7 : b ≤ 7) : a + b - andI a b = orI a b :=
  all88 (P := fun a b => a + b - andI a b = orI a b) (by decide +kernel) a0 a7 b0 b7

theorem andI_bd {a b : Int} (a0 : 0 ≤ a) (a7 : a ≤ 7) (b0 : 0 ≤ b) (b7 : b ≤ 7) : 0 ≤ andI a b ∧ andI a b ≤ 7 := by
  rw [← andTo_three a0 a7 b0 b7]
  exact andTo_bd a b 3 (by omega)

theorem orI_bd {a b : Int} (a0 : 0 ≤ a) (a7 : a ≤ 7) (b0 : 0 ≤ b) (b7 : b ≤ 7) : 0 ≤ orI a b ∧ orI a b ≤ 7 :=
  all88 (P := fun a b => 0 ≤ orI a b ∧ orI a b ≤ 7) (by decide +kernel) a0 a7 b0 b7

def covB (s t : Int) : Bool := andI s t == t

theorem has_any (s h : Int) (w : World) (s0 : 0 ≤ s) (s7 : s ≤ 7) (h0 : 0 ≤ h) (h1 : h ≤ 2) :
    Calls Try.prog 115 #[.int .i64 s, .int .i64 h] w fun e w' => e = .returned (.bool (hasB s h)) ∧ w' = w := by
  rw [← has_bits s0 s7 h0 h1]
  go_enter Try.func115, Try.ntmps115
  go_wp2
  go_ret
  exact ⟨rfl, rfl⟩

theorem l1Has_any (s h : Int) (w : World) (s0 : 0 ≤ s) (s7 : s ≤ 7) (h0 : 0 ≤ h) (h1 : h ≤ 2) :
    Calls Try.prog 84 #[.int .i64 s, .int .i64 h] w fun e w' => e = .returned (.bool (hasB s h)) ∧ w' = w := by
  rw [← has_mod s0]
  go_enter Try.func84, Try.ntmps84
  go_wp2
  go_ret
  exact ⟨rfl, rfl⟩

theorem l1Both_any (a b : Int) (w : World) (a0 : 0 ≤ a) (a7 : a ≤ 7) (b0 : 0 ≤ b) (b7 : b ≤ 7) :
    Calls Try.prog 140 #[.int .i64 a, .int .i64 b] w fun e w' => e = .returned (.int .i64 (andI a b)) ∧ w' = w := by
  have HE : Hid (andTo a b 3 = andI a b) := andTo_three a0 a7 b0 b7
  go_enter Try.func140, Try.ntmps140
  go_wp2
  go_loop [5, 6] (fun o i => ∃ k : Nat, k ≤ 3 ∧ i = .int .i64 k ∧ o = .int .i64 (andTo a b k)) (fun _ i => 3 - (intOf i).toNat)
  case atStart => exact ⟨0, by omega, rfl, by simp [andTo, Int.emod_one]⟩
  case round =>
    obtain ⟨k, hk, rfl, rfl⟩ := hrel
    by_cases hlt : k < 3
    · have HS : Hid (andTo a b (k + 1) = andTo a b k + if hasB a k && hasB b k then 2 ^ k else 0) := andTo_succ a0 a7 b0 b7 (by omega)
      have hbd := andTo_bd a b k (by omega)
      cases ha : hasB a k
      · go_wp2_with (go_at_call 84; refine (l1Has_any _ _ _ (by omega) (by omega) (by omega) (by omega)).mono ?_; rintro e w1 ⟨rfl, rfl⟩)
        go_round
        case rel => exact ⟨k + 1, by omega, by go_num, by rw [HS.out]; simp [ha]⟩
        case measure => simp [intOf]; omega
      · cases hb : hasB b k
        · go_wp2_with (go_at_call 84; refine (l1Has_any _ _ _ (by omega) (by omega) (by omega) (by omega)).mono ?_; rintro e w1 ⟨rfl, rfl⟩)
          go_round
          case rel => exact ⟨k + 1, by omega, by go_num, by rw [HS.out]; simp [ha, hb]⟩
          case measure => simp [intOf]; omega
        · go_wp2_with (go_at_call 84; refine (l1Has_any _ _ _ (by omega) (by omega) (by omega) (by omega)).mono ?_; rintro e w1 ⟨rfl, rfl⟩)
          go_round
          case rel => exact ⟨k + 1, by omega, by go_num, by rw [HS.out, wrap_shl _ _ hbd (by omega)]; simp [ha, hb]⟩
          case measure => simp [intOf]; omega
    · have : k = 3 := by omega
      subst this
      go_wp2
      go_ret
      exact ⟨by rw [← HE.out]; rfl, rfl⟩

def inTo (a b : Int) (k : Nat) : Bool := (List.range k).all fun h => !hasB a h || hasB b h

theorem inTo_succ (a b : Int) (k : Nat) : inTo a b (k + 1) = (inTo a b k && (!hasB a k || hasB b k)) := by
  simp [inTo, List.range_succ]

theorem inTo_three {a b : Int} (a0 : 0 ≤ a) (a7 : a ≤ 7) (b0 : 0 ≤ b) (b7 : b ≤ 7) : inTo a b 3 = covB b a :=
  all88 (P := fun a b => inTo a b 3 = covB b a) (by decide +kernel) a0 a7 b0 b7

theorem inTo_false {a b : Int} {k : Nat} (a0 : 0 ≤ a) (a7 : a ≤ 7) (b0 : 0 ≤ b) (b7 : b ≤ 7) (hk : k < 3) (h : (!hasB a k || hasB b k) = false) : covB b a = false := by
  rw [← inTo_three a0 a7 b0 b7]
  simp only [inTo, List.all_eq_false]
  exact ⟨k, List.mem_range.2 hk, by simp [h]⟩

theorem l1Within_any (a b : Int) (w : World) (a0 : 0 ≤ a) (a7 : a ≤ 7) (b0 : 0 ≤ b) (b7 : b ≤ 7) :
    Calls Try.prog 148 #[.int .i64 a, .int .i64 b] w fun e w' => e = .returned (.bool (covB b a)) ∧ w' = w := by
  have HE : Hid (inTo a b 3 = covB b a) := inTo_three a0 a7 b0 b7
  go_enter Try.func148, Try.ntmps148
  go_wp2
  go_loop [5] (fun i => ∃ k : Nat, k ≤ 3 ∧ i = .int .i64 k ∧ Hid (inTo a b k = true)) (fun i => 3 - (intOf i).toNat)
  case atStart => exact ⟨0, by omega, rfl, (show inTo a b 0 = true from rfl)⟩
  case round =>
    obtain ⟨k, hk, rfl, HT⟩ := hrel
    by_cases hlt : k < 3
    · have HS : Hid (inTo a b (k + 1) = (inTo a b k && (!hasB a k || hasB b k))) := inTo_succ a b k
      cases ha : hasB a k
      · go_wp2_with (go_at_call 84; refine (l1Has_any _ _ _ (by omega) (by omega) (by omega) (by omega)).mono ?_; rintro e w1 ⟨rfl, rfl⟩)
        go_round
        case rel => exact ⟨k + 1, by omega, by go_num, by show inTo a b (k + 1) = true; rw [HS.out, HT.out]; simp [ha]⟩
        case measure => simp [intOf]; omega
      · cases hb : hasB b k
        · have HF : Hid (covB b a = false) := inTo_false a0 a7 b0 b7 hlt (by simp [ha, hb])
          go_wp2_with (go_at_call 84; refine (l1Has_any _ _ _ (by omega) (by omega) (by omega) (by omega)).mono ?_; rintro e w1 ⟨rfl, rfl⟩)
          go_ret
          exact ⟨by rw [HF.out]; rfl, rfl⟩
        · go_wp2_with (go_at_call 84; refine (l1Has_any _ _ _ (by omega) (by omega) (by omega) (by omega)).mono ?_; rintro e w1 ⟨rfl, rfl⟩)
          go_round
          case rel => exact ⟨k + 1, by omega, by go_num, by show inTo a b (k + 1) = true; rw [HS.out, HT.out]; simp [ha, hb]⟩
          case measure => simp [intOf]; omega
    · have : k = 3 := by omega
      subst this
      go_wp2
      go_ret
      exact ⟨by rw [← HE.out, HT.out]; rfl, rfl⟩

end Go.Proofs.Ytpcmhkcahajdgaa
