/- The exact law of LabelRead, walked. -/
import Derived.Test.YtbkgkpfekbnpiaaSrd
namespace Go.Proofs.Ytbkgkpfekbnpiaa
open Go.RowKit
set_option linter.unusedSimpArgs false
set_option linter.unusedVariables false
attribute [local go_sem] World.cell?_alloc_some

theorem fnExactLabelRead_walk (s : ByteArray) (hm : s.size ≤ maxLen) (w : World) :
    Calls Try.prog 16 #[.string s] w fun e w' => e = .returned (.bool true) ∧ Below w.heap.size w w' := by
  by_cases hl : (1048576 : Int) < (s.size : Int)
  · go_enter Try.func16, Try.ntmps16
    go_wp2
    go_ret
    exact ⟨rfl, Below.refl _ _⟩
  go_enter Try.func16, Try.ntmps16
  go_wp2_with fail
  refine (sLabelRead_any _ _).mono ?_; rintro e w1 ⟨rfl, hb1⟩
  have s1 := hb1.size
  have HB : Hid (Below w.heap.size w w1) := hb1
  clear hb1
  go_wp2_with fail
  refine (labelRead_any _ _ hm).mono ?_; rintro e w2 ⟨rfl, hb2⟩
  have P1 := (Pair.new w1 (irK s) (irT s) 24).below hb2
  have s2 : w1.heap.size + 1 ≤ w2.heap.size := by have := hb2.size; simpa using this
  replace HB : Hid (Below w.heap.size w w2) := below_then2 hb2 (HB.out.alloc (by omega) _)
  clear hb2
  have P2 := P1.alloc (.cells #[.int .i64 (irK s), .int .i64 (irT s)] 24)
  obtain ⟨x0, x1, _, _⟩ := P2
  clear P1
  have HB2 : Hid (Below w.heap.size w (w2.alloc (.cells #[.int .i64 (irK s), .int .i64 (irT s)] 24))) := HB.out.alloc (by omega) _
  clear HB
  go_wp2_with fail
  refine (eqLabel_any _ _ _ _ _).mono ?_; rintro e w3 ⟨rfl, hb3⟩
  have HB3 := hbThen HB2 hb3
  clear hb3 HB2 x0 x1
  rw [eqB_self]
  go_wp2
  go_ret
  exact ⟨rfl, HB3.out⟩

end Go.Proofs.Ytbkgkpfekbnpiaa
