/- A label is read back from its text: walked. -/
import Derived.Test.YtbkgkpfekbnpiaaSrd
import Derived.Test.YtbkgkpfekbnpiaaDrf
namespace Go.Proofs.Ytbkgkpfekbnpiaa
open Go.RowKit
set_option linter.unusedSimpArgs false
set_option linter.unusedVariables false
attribute [local go_sem] World.cell?_alloc_some

theorem textOf_small (k t : Int) : (textOf k t).size ≤ maxLen := by
  unfold textOf
  have l1 := sayTo_len k 3
  have l2 := sayTo_len t 3
  unfold maxLen
  split
  · rw [ByteArray.size_append, ByteArray.size_append, strOfNums_size, strOfNums_size]
    have : ({ data := #[33] } : ByteArray).size = 1 := rfl
    omega
  · decide

set_option maxHeartbeats 1000000 in
theorem fnLabelBack_walk (a0 : Option Addr) (len0 cap0 : Nat) (z0 : List Int) (w : World) (h : IsRow .u8 w a0 len0 cap0 z0) :
    Calls Try.prog 8 #[.slice a0 len0 cap0] w fun e w' => e = .returned (.bool true) ∧ Below w.heap.size w w' := by
  by_cases hl : (1048576 : Int) < (len0 : Int)
  · go_enter Try.func8, Try.ntmps8
    go_wp2
    go_ret
    exact ⟨rfl, Below.refl _ _⟩
  go_enter Try.func8, Try.ntmps8
  go_wp2_with fail
  refine (drawText_any _ a0 len0 cap0 z0 h).mono ?_
  rintro e w1 ⟨ak, at', rfl, _, hb⟩
  have HB : Hid (Below w.heap.size w w1) := hb
  have s1 : w.heap.size ≤ w1.heap.size := hb.size
  clear hb
  go_wp2_with fail
  have PX := Pair.new w1 ak at' 24
  refine (labelText_any _ _ _).mono ?_
  rintro e w2 ⟨rfl, hb⟩
  obtain ⟨x0, x1, _, _⟩ := PX.below hb
  have s2 : w1.heap.size + 1 ≤ w2.heap.size := by have := hb.size; simpa using this
  replace HB : Hid (Below w.heap.size w w2) := below_then2 hb (HB.out.alloc (by omega) _)
  clear hb PX
  generalize w1.heap.size = N at *
  cases ha : okB ak at'
  · go_wp2_with (first
      | (go_at_call 30; refine (sLabelText_any _ _ _).mono ?_; rintro e w9 ⟨rfl, hbx⟩; replace x0 := cell_later hbx x0; replace x1 := cell_later hbx x1; replace HB := hbThen HB hbx; clear hbx)
      | (go_at_call 20; refine (sLabelOk_any _ _ _).mono ?_; rintro e w9 ⟨rfl, hbx⟩; replace x0 := cell_later hbx x0; replace x1 := cell_later hbx x1; replace HB := hbThen HB hbx; clear hbx))
    go_ret
    exact ⟨by simp, HB.out⟩
  · obtain ⟨E1, E2, E3⟩ := read_text ha
    have hm := textOf_small ak at'
    have HC : Hid (∀ wx, Calls Try.prog 31 #[.string (textOf ak at')] wx fun e w' => e = .returned (.tuple #[.agg #[.int .i64 ak, .int .i64 at'], .bool true]) ∧ Below wx.heap.size wx w') := (show ∀ wx, _ by
      intro wx
      have := labelRead_any (textOf ak at') wx hm
      rw [E1, E2, E3] at this
      exact this)
    clear E1 E2 E3 hm
    go_wp2_with (first
      | (go_at_call 30; refine (sLabelText_any _ _ _).mono ?_; rintro e w9 ⟨rfl, hbx⟩; replace x0 := cell_later hbx x0; replace x1 := cell_later hbx x1; replace HB := hbThen HB hbx; clear hbx)
      | (go_at_call 20; refine (sLabelOk_any _ _ _).mono ?_; rintro e w9 ⟨rfl, hbx⟩; replace x0 := cell_later hbx x0; replace x1 := cell_later hbx x1; replace HB := hbThen HB hbx; clear hbx)
      | (go_at_call 31; refine (HC.out _).mono ?_; rintro e w9 ⟨rfl, hbx⟩; replace x0 := cell_later hbx x0; replace x1 := cell_later hbx x1; replace HB := hbThen HB hbx; clear hbx))
    go_ret
    refine ⟨by simp, HB.out.alloc ?_ _⟩
    exact HB.out.size

end Go.Proofs.Ytbkgkpfekbnpiaa
