/- What LabelRead of the program answers. -/
import Derived.Test.YtbkgkpfekbnpiaaCut
import Derived.Lib.Bytealg
import Derived.Lib.IndexLaws
import Derived.Lib.IndexBytes
namespace Go.Proofs.Ytbkgkpfekbnpiaa
open Go.RowKit
set_option linter.unusedSimpArgs false
set_option linter.unusedVariables false

theorem hbThen {w a b : World} (HB : Hid (Below w.heap.size w a)) (hbx : Below a.heap.size a b) : Hid (Below w.heap.size w b) := below_then2 hbx HB
def mk (s : ByteArray) : Nat := (firstIdx s 33).toNat
def irA (s : ByteArray) : List UInt8 := s.data.toList.take (mk s)
def irZ (s : ByteArray) : List UInt8 := s.data.toList.drop (mk s + 1)
def irB (s : ByteArray) : Bool := decide (0 ≤ firstIdx s 33) && (rd (irA s)).isSome && (rd (irZ s)).isSome
def irK (s : ByteArray) : Int := if irB s then rdV (irA s) else 0
def irT (s : ByteArray) : Int := if irB s then rdV (irZ s) else 0

theorem ex_take (s : ByteArray) (i : Nat) : (s.extract 0 i).data.toList = s.data.toList.take i := by
  rw [Lib.extract_data]; simp
theorem ex_drop (s : ByteArray) (i : Nat) : (s.extract i s.size).data.toList = s.data.toList.drop i := by
  exact Lib.extract_to_end s i
theorem fi_cases (s : ByteArray) : firstIdx s 33 = -1 ∨ ∃ i : Nat, firstIdx s 33 = (i : Int) ∧ i < s.size := by
  unfold firstIdx
  cases h : (List.range s.size).find? (fun i => s[i]! == 33) with
  | none => exact .inl rfl
  | some i =>
    have := List.mem_of_find?_eq_some h
    exact .inr ⟨i, rfl, List.mem_range.1 this⟩

set_option maxHeartbeats 1000000 in
theorem labelRead_any (s : ByteArray) (w : World) (hm : s.size ≤ maxLen) :
    Calls Try.prog 31 #[.string s] w fun e w' => e = .returned (.tuple #[.agg #[.int .i64 (irK s), .int .i64 (irT s)], .bool (irB s)]) ∧ Below w.heap.size w w' := by
  rcases fi_cases s with hi | ⟨i, hi, hl⟩
  · have hB : irB s = false := by simp [irB, hi]
    have hK : irK s = 0 := by simp [irK, hB]
    have hT : irT s = 0 := by simp [irT, hB]
    rw [hB, hK, hT]
    clear hB hK hT
    go_enter Try.func31, Try.ntmps31
    go_wp2_with fail
    have PZ := Pair.new w 0 0 24
    refine (cut_miss s _ hi).mono ?_; rintro e w1 ⟨rfl, hb⟩
    obtain ⟨z0, z1, g0, g1⟩ := PZ.below hb
    have HB : Hid (Below w.heap.size w w1) := ((Below.refl _ _).alloc (Nat.le_refl _) _).trans (hb.mono (by simp))
    clear hb hi
    go_wp2_with (go_at_call 53; refine (readHosts_any _ _ (by first | exact hm | (unfold maxLen; decide))).mono ?_; rintro e w2 ⟨rfl, hw2⟩; subst w2)
    refine bodyPost_ret (v := .tuple #[.agg #[.int .i64 0, .int .i64 0], .bool false]) (by simp [results, Try.results31, go_sem, z0, z1]) rfl ⟨rfl, ?_⟩
    have HB' := HB.out
    clear HB z0 z1 g0 g1
    repeat' (first | exact Below.refl _ _ | assumption | (refine Below.drew ?_) | (refine Below.then ?_ (by assumption) ?_) | (refine Below.alloc ?_ ?_ _) | (refine Below.setCell ?_ ?_ _) | (simp; done) | (simp at *; omega) | omega)
  · have hA : irA s = s.data.toList.take i := by simp [irA, mk, hi]
    have hZ : irZ s = s.data.toList.drop (i + 1) := by simp [irZ, mk, hi]
    have hB : irB s = ((rd (irA s)).isSome && (rd (irZ s)).isSome) := by
      have : decide (0 ≤ firstIdx s 33) = true := by rw [hi]; simp
      simp only [irB, this, Bool.true_and]
    have e1 : (s.extract 0 i).data.toList = irA s := by rw [ex_take, hA]
    have e2 : (s.extract (i + 1) s.size).data.toList = irZ s := by rw [ex_drop, hZ]
    have m1 : (s.extract 0 i).size ≤ maxLen := by rw [ByteArray.size_extract]; omega
    have m2 : (s.extract (i + 1) s.size).size ≤ maxLen := by rw [ByteArray.size_extract]; omega
    have HK : Hid (irK s = if (rd (irA s)).isSome && (rd (irZ s)).isSome then rdV (irA s) else 0) := (show irK s = _ by simp only [irK, hB])
    have HT : Hid (irT s = if (rd (irA s)).isSome && (rd (irZ s)).isSome then rdV (irZ s) else 0) := (show irT s = _ by simp only [irT, hB])
    rw [hB, HK.out, HT.out]
    have c1 := fun wx => readHosts_any (s.extract 0 i) wx m1
    have c2 := fun wx => readHosts_any (s.extract (i + 1) s.size) wx m2
    rw [e1] at c1
    rw [e2] at c2
    have H1 : Hid (∀ wx, Calls Try.prog 53 #[.string (s.extract 0 i)] wx fun e w' => e = .returned (.tuple #[.int .i64 (rdV (irA s)), .bool (rd (irA s)).isSome]) ∧ w' = wx) := c1
    have H2 : Hid (∀ wx, Calls Try.prog 53 #[.string (s.extract (i + 1) s.size)] wx fun e w' => e = .returned (.tuple #[.int .i64 (rdV (irZ s)), .bool (rd (irZ s)).isSome]) ∧ w' = wx) := c2
    clear c1 c2 e1 e2 m1 m2 hA hZ hB HK HT
    generalize rdV (irA s) = av at *
    generalize rdV (irZ s) = zv at *
    generalize (rd (irA s)).isSome = ab at *
    generalize (rd (irZ s)).isSome = zb at *
    go_enter Try.func31, Try.ntmps31
    go_wp2_with fail
    have PZ := Pair.new w 0 0 24
    refine (cut_hit s i _ hi hl hm).mono ?_; rintro e w1 ⟨rfl, hb⟩
    replace PZ := PZ.below hb
    have HB : Hid (Below w.heap.size w w1) := ((Below.refl _ _).alloc (Nat.le_refl _) _).trans (hb.mono (by simp))
    clear hb hi
    go_wp2_with fail
    refine (H1.out _).mono ?_; rintro e w2 ⟨rfl, hw2⟩; subst w2
    go_wp2_with fail
    refine (H2.out _).mono ?_; rintro e w2 ⟨rfl, hw2⟩; subst w2
    clear H1 H2
    cases ab
    · obtain ⟨z0, z1, g0, g1⟩ := PZ
      go_wp2
      refine bodyPost_ret (v := .tuple #[.agg #[.int .i64 0, .int .i64 0], .bool false]) (by simp [results, Try.results31, go_sem, z0, z1]) rfl ⟨rfl, ?_⟩
      have HB' := HB.out
      clear HB z0 z1 g0 g1
      repeat' (first | exact Below.refl _ _ | assumption | (refine Below.drew ?_) | (refine Below.then ?_ (by assumption) ?_) | (refine Below.alloc ?_ ?_ _) | (refine Below.setCell ?_ ?_ _) | (simp; done) | (simp at *; omega) | omega)
    · cases zb
      · obtain ⟨z0, z1, g0, g1⟩ := PZ
        go_wp2
        refine bodyPost_ret (v := .tuple #[.agg #[.int .i64 0, .int .i64 0], .bool false]) (by simp [results, Try.results31, go_sem, z0, z1]) rfl ⟨rfl, ?_⟩
        have HB' := HB.out
        clear HB z0 z1 g0 g1
        repeat' (first | exact Below.refl _ _ | assumption | (refine Below.drew ?_) | (refine Below.then ?_ (by assumption) ?_) | (refine Below.alloc ?_ ?_ _) | (refine Below.setCell ?_ ?_ _) | (simp; done) | (simp at *; omega) | omega)
      · go_wp2_with fail
        refine (labelOf_any _ _ _).mono ?_; rintro e w2 ⟨rfl, hb⟩
        obtain ⟨z0, z1, g0, g1⟩ := PZ.below hb
        replace HB := hbThen HB hb
        clear hb
        go_wp2
        refine bodyPost_ret (v := .tuple #[.agg #[.int .i64 av, .int .i64 zv], .bool true]) (by simp [results, Try.results31, go_sem, z0, z1]) rfl ⟨rfl, ?_⟩
        have HB' := HB.out
        clear HB z0 z1 g0 g1
        repeat' (first | exact Below.refl _ _ | assumption | (refine Below.drew ?_) | (refine Below.then ?_ (by assumption) ?_) | (refine Below.alloc ?_ ?_ _) | (refine Below.setCell ?_ ?_ _) | (simp; done) | (simp at *; omega) | omega)

end Go.Proofs.Ytbkgkpfekbnpiaa
