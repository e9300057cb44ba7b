/- What LabelRead of the model answers. -/
import Derived.Test.YtbkgkpfekbnpiaaMth
namespace Go.Proofs.Ytbkgkpfekbnpiaa
open Go.RowKit
set_option linter.unusedSimpArgs false
set_option linter.unusedVariables false

theorem l1All_any (w : World) : Calls Try.prog 56 #[] w fun e w' => e = .returned (.int .i64 7) ∧ w' = w := by
  go_enter Try.func56, Try.ntmps56
  go_wp2
  go_ret
  exact ⟨rfl, rfl⟩
/-- No label ahead of this one has that text. -/
def NoHit (s : ByteArray) (a b : Nat) : Prop := ∀ k t : Nat, k ≤ 7 → t ≤ 7 → (k < a ∨ k = a ∧ t < b) → textOf (k : Int) (t : Int) ≠ s
theorem NoHit.next {s : ByteArray} {a b : Nat} (h : NoHit s a b) (hb : textOf (a : Int) (b : Int) ≠ s) : NoHit s a (b + 1) := by
  intro k t hk ht hc
  by_cases e : k = a ∧ t = b
  · obtain ⟨rfl, rfl⟩ := e; exact hb
  · exact h k t hk ht (by omega)
theorem NoHit.row {s : ByteArray} {a : Nat} (h : NoHit s a 8) : NoHit s (a + 1) 0 := fun k t hk ht hc => h k t hk ht (by omega)
theorem NoHit.none {s : ByteArray} (h : NoHit s 8 0) : irB s = false := by
  cases hB : irB s
  · rfl
  · exfalso
    obtain ⟨hok, he⟩ := text_read s hB
    have i := okB_iff.1 hok
    refine h (irK s).toNat (irT s).toNat (by omega) (by omega) (by omega) ?_
    rw [Int.toNat_of_nonneg i.1.1, Int.toNat_of_nonneg i.2.1, he]
theorem hit_eq {s : ByteArray} {a b : Nat} (ha : a ≤ 7) (hb : b ≤ 7) (h : textOf (a : Int) (b : Int) = s) : irB s = true ∧ irK s = (a : Int) ∧ irT s = (b : Int) := by
  have hok : okB (a : Int) (b : Int) = true := okB_iff.2 ⟨by omega, by omega⟩
  rw [← h]
  exact read_text hok
theorem toList_beq (a b : ByteArray) : (a.toList == b.toList) = decide (a = b) := by
  rw [ByteArray.toList_eq, ByteArray.toList_eq, Bool.eq_iff_iff]
  simp only [beq_iff_eq, decide_eq_true_eq]
  exact ⟨fun h => bytes_eq h, fun h => by rw [h]⟩

set_option maxHeartbeats 2000000 in
theorem sLabelRead_any (s : ByteArray) (w : World) :
    Calls Try.prog 33 #[.string s] w fun e w' => e = .returned (.tuple #[.agg #[.int .i64 (irK s), .int .i64 (irT s)], .bool (irB s)]) ∧ Below w.heap.size w w' := by
  go_enter Try.func33, Try.ntmps33
  go_wp2
  go_loopw [4] (fun i wr => ∃ a : Nat, a ≤ 8 ∧ i = .int .i64 a ∧ NoHit s a 0 ∧ Pair wr w.heap.size (.int .i64 0) (.int .i64 0) ∧ Below w.heap.size w wr) (fun i _ => 8 - (intOf i).toNat)
  case atStart => exact ⟨0, by omega, rfl, fun k t _ _ hc => by omega, Pair.new w 0 0 24, (Below.refl _ _).alloc (Nat.le_refl _) _⟩
  case round =>
    obtain ⟨a, ha, rfl, hN, hP, hB⟩ := hrel
    by_cases hlt : a < 8
    · have hle : (a : Int) ≤ 7 := by omega
      go_wp2_with (go_at_call 56; refine (l1All_any _).mono ?_; rintro e w1 ⟨rfl, hw1⟩; subst w1)
      go_loopw [5] (fun i wq => ∃ b : Nat, b ≤ 8 ∧ i = .int .i64 b ∧ NoHit s a b ∧ Pair wq w.heap.size (.int .i64 0) (.int .i64 0) ∧ Below w.heap.size w wq) (fun i _ => 8 - (intOf i).toNat)
      case atStart => exact ⟨0, by omega, rfl, hN, hP, hB⟩
      case round =>
        obtain ⟨b, hb, rfl, hM, hQ, hC⟩ := hrel
        clear hN hP hB
        by_cases hlt2 : b < 8
        · have hle2 : (b : Int) ≤ 7 := by omega
          have hsz := hC.size
          have HC : Hid (Below w.heap.size w (wr.alloc (.cells #[.int .i64 a, .int .i64 b] 24))) := hC.alloc (by omega) _
          have HQ : Hid (Pair (wr.alloc (.cells #[.int .i64 a, .int .i64 b] 24)) w.heap.size (.int .i64 0) (.int .i64 0)) := hQ.alloc _
          have hlq := hQ.lt
          clear hC hQ
          go_wp2_with (go_at_call 56; refine (l1All_any _).mono ?_; rintro e w1 ⟨rfl, hw1⟩; subst w1)
          have PT := Pair.new wr (a : Int) (b : Int) 24
          refine (sLabelText_any _ _ _).mono ?_; rintro e w2 ⟨rfl, hb2⟩
          obtain ⟨t0, t1, _, _⟩ := PT.below hb2
          have hQ := HQ.out.below hb2
          replace HC := hbThen HC hb2
          have hne : ¬ wr.heap.size = w.heap.size := by omega
          have hne2 : ¬ w.heap.size = wr.heap.size := by omega
          clear HQ hb2 hsz
          by_cases he : textOf (a : Int) (b : Int) = s
          · obtain ⟨E1, E2, E3⟩ := hit_eq (by omega) (by omega) he
            have H1 : Hid (irB s = true) := E1
            have H2 : Hid (irK s = (a : Int)) := E2
            have H3 : Hid (irT s = (b : Int)) := E3
            have heq : ((textOf (a : Int) (b : Int)).toList == s.toList) = true := by rw [toList_beq]; simpa using he
            clear E1 E2 E3 he hM
            obtain ⟨z0, z1, g0, g1⟩ := hQ
            go_wp2
            refine bodyPost_ret (v := .tuple #[.agg #[.int .i64 a, .int .i64 b], .bool true]) (by simp [results, Try.results33, go_sem, z0, z1]) rfl ⟨by rw [H1.out, H2.out, H3.out], ?_⟩
            have HB' := HC.out
            clear HC z0 z1 g0 g1 H1 H2 H3 t0 t1
            repeat' (first | exact Below.refl _ _ | assumption | (refine Below.drew ?_) | (refine Below.then ?_ (by assumption) ?_) | (refine Below.alloc ?_ ?_ _) | (refine Below.setCell ?_ ?_ _) | (simp; done) | (simp at *; omega) | omega)
          · have heq : ((textOf (a : Int) (b : Int)).toList == s.toList) = false := by rw [toList_beq]; simpa using he
            have HM : Hid (NoHit s a (b + 1)) := hM.next he
            clear hM he
            go_wp2
            go_roundw
            case rel => exact ⟨b + 1, by omega, by go_num, HM.out, hQ, HC.out⟩
            case measure => simp [intOf]; omega
        · have : b = 8 := by omega
          subst this
          have HM : Hid (NoHit s (a + 1) 0) := hM.row
          clear hM
          go_wp2_with (go_at_call 56; refine (l1All_any _).mono ?_; rintro e w1 ⟨rfl, hw1⟩; subst w1)
          go_roundw
          case rel => exact ⟨a + 1, by omega, by go_num, HM.out, hQ, hC⟩
          case measure => simp [intOf]; omega
    · have : a = 8 := by omega
      subst this
      have hF := hN.none
      have HK : Hid (irK s = 0) := (show irK s = 0 by simp [irK, hF])
      have HT : Hid (irT s = 0) := (show irT s = 0 by simp [irT, hF])
      have HF : Hid (irB s = false) := hF
      clear hF hN
      obtain ⟨z0, z1, g0, g1⟩ := hP
      have HB : Hid (Below w.heap.size w wr) := hB
      clear hB
      go_wp2_with (go_at_call 56; refine (l1All_any _).mono ?_; rintro e w1 ⟨rfl, hw1⟩; subst w1)
      refine bodyPost_ret (v := .tuple #[.agg #[.int .i64 0, .int .i64 0], .bool false]) (by simp [results, Try.results33, go_sem, z0, z1]) rfl ⟨by rw [HK.out, HT.out, HF.out], ?_⟩
      have HB' := HB.out
      clear HB z0 z1 g0 g1 HK HT HF
      repeat' (first | exact Below.refl _ _ | assumption | (refine Below.drew ?_) | (refine Below.then ?_ (by assumption) ?_) | (refine Below.alloc ?_ ?_ _) | (refine Below.setCell ?_ ?_ _) | (simp; done) | (simp at *; omega) | omega)

end Go.Proofs.Ytbkgkpfekbnpiaa
