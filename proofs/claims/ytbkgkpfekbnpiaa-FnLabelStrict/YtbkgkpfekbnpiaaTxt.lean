/- The texts of labels. -/
import Derived.Test.YtbkgkpfekbnpiaaExB
import Derived.Laws.BytesArg
namespace Go.Proofs.Ytbkgkpfekbnpiaa
open Go.RowKit
set_option linter.unusedSimpArgs false
set_option linter.unusedVariables false

/-- The hosts of a set below a number, as they are written. -/
def sayTo (s : Int) : Nat → List Int
  | 0 => []
  | k + 1 => sayTo s k ++ if hasB s k then [48 + (k : Int)] else []
theorem sayTo_len (s : Int) (k : Nat) : (sayTo s k).length ≤ k := by
  induction k with
  | zero => simp [sayTo]
  | succ k ih => simp only [sayTo]; split <;> simp <;> omega
theorem str_app (a b : List Int) : strOfNums a ++ strOfNums b = strOfNums (a ++ b) := by
  have h : (strOfNums a ++ strOfNums b).data = (strOfNums (a ++ b)).data := by
    rw [ByteArray.data_append]
    simp [strOfNums]
  cases h1 : strOfNums a ++ strOfNums b
  cases h2 : strOfNums (a ++ b)
  rw [h1, h2] at h
  simpa using h

theorem l6Dec_any (n : Int) (w : World) (n0 : 0 ≤ n) (n9 : n ≤ 9) :
    Calls Try.prog 61 #[.int .i64 n] w fun e w' => e = .returned (.string (strOfNums [48 + n])) ∧ Below w.heap.size w w' := by
  have h1 : ¬ n < -9223372036854775807 := by omega
  have h2 : ¬ n < 0 := by omega
  have h3 : n < 10 := by omega
  have hcv := run_convert_bytes_arg (P := Try.prog) (w.alloc (.cells #[.int .u8 (48 + n)] 5)) 22 5 Try.underlying22 Try.underlying5 w.heap.size 0 1 1 [48 + n] rfl (by intro i hi; obtain rfl : i = 0 := (by omega); simp [go_sem]) 9 Try.underlying9
  go_enter Try.func61, Try.ntmps61
  go_wp2
  go_ret
  exact ⟨rfl, (Below.refl _ _).alloc (Nat.le_refl _) _⟩

theorem l1Say_any (s : Int) (w : World) (s0 : 0 ≤ s) (s7 : s ≤ 7) :
    Calls Try.prog 51 #[.int .i64 s] w fun e w' => e = .returned (.string (strOfNums (sayTo s 3))) ∧ Below w.heap.size w w' := by
  go_enter Try.func51, Try.ntmps51
  go_wp2
  go_loopw [3, 4] (fun o i wr => ∃ k : Nat, k ≤ 3 ∧ i = .int .i64 k ∧ o = .string (strOfNums (sayTo s k)) ∧ Below w.heap.size w wr) (fun _ i _ => 3 - (intOf i).toNat)
  case atStart => exact ⟨0, by omega, rfl, rfl, Below.refl _ _⟩
  case round =>
    obtain ⟨k, hk, rfl, rfl, hB⟩ := hrel
    by_cases hlt : k < 3
    · cases ha : hasB s k
      · go_wp2_with (go_at_call 58; refine (l1Has_any _ _ _ (by omega) (by omega) (by omega) (by omega)).mono ?_; rintro e w1 ⟨rfl, rfl⟩)
        go_roundw
        case rel => exact ⟨k + 1, by omega, by go_num, by simp [sayTo, ha], hB⟩
        case measure => simp [intOf]; omega
      · have hsz : ¬ 9223372036854775807 < (strOfNums (sayTo s k)).size + (strOfNums [48 + (k : Int)]).size := by
          have := sayTo_len s k
          rw [strOfNums_size, strOfNums_size]
          simp; omega
        go_wp2_with (first | (go_at_call 58; refine (l1Has_any _ _ _ (by omega) (by omega) (by omega) (by omega)).mono ?_; rintro e w1 ⟨rfl, rfl⟩) | (go_at_call 61; refine (l6Dec_any _ _ (by omega) (by omega)).mono ?_; rintro e w2 ⟨rfl, hb2⟩))
        go_roundw
        case rel => exact ⟨k + 1, by omega, by go_num, by rw [str_app]; simp [sayTo, ha], below_then2 hb2 hB⟩
        case measure => simp [intOf]; omega
    · have : k = 3 := by omega
      subst this
      go_wp2
      go_ret
      exact ⟨rfl, hB⟩

theorem row_text {wr : World} {base : Nat} {v : Value} {xs : List Int} (h : wr.ownsRow base 5 1 v xs.length (xs.map (Value.int .u8))) :
    ∀ dst, Try.prog.underlying dst = some .string → (convert 22 dst v).run Try.prog wr = .ok (.string (strOfNums xs)) wr := by
  obtain ⟨h0, h1⟩ := h
  rcases h1 with ⟨rfl, hn⟩ | ⟨g, cap, cur, rfl, hg, hb, hc, hm, hs, ht⟩
  · have : xs = [] := by simpa using hn
    subst this
    exact run_convert_bytes_nil wr 22 5 Try.underlying22 Try.underlying5 0 0
  · refine run_convert_bytes_arg wr 22 5 Try.underlying22 Try.underlying5 g 0 xs.length cap xs rfl ?_
    intro i hi
    have e1 : (cur.toList.take (xs.length * 1))[i]? = (xs.map (Value.int .u8))[i]? := by rw [ht]
    rw [List.getElem?_take_of_lt (by omega)] at e1
    simp [hi] at e1
    simp [World.cell?, hb, hi, e1]
theorem infoU8 : (Try.prog.info? 5).map (fun i => (i.zero, i.size, i.bytes)) = some (some (.int .u8 0), 1, 1) := by kernel_rfl
theorem text_any (s : Int) (w : World) (s0 : 0 ≤ s) (s7 : s ≤ 7) :
    Calls Try.prog 50 #[.int .i64 s] w fun e w' => e = .returned (.string (strOfNums (sayTo s 3))) ∧ Below w.heap.size w w' := by
  obtain ⟨i0, hi, hz0, hz1, hz2⟩ := info_parts infoU8
  go_enter Try.func50, Try.ntmps50
  go_wp2
  go_loopw [3, 5] (fun v i wr => ∃ k : Nat, k ≤ 3 ∧ i = .int .i64 k ∧ wr.ownsRow w.heap.size 5 1 v (sayTo s k).length ((sayTo s k).map (Value.int .u8)) ∧ Below w.heap.size w wr) (fun _ i _ => 3 - (intOf i).toNat)
  case atStart => exact ⟨0, by omega, rfl, World.ownsRow_nil _ _ _ _, Below.refl _ _⟩
  case round =>
    obtain ⟨k, hk, rfl, hown, hB⟩ := hrel
    by_cases hlt : k < 3
    · cases ha : hasB s k
      · go_wp2_with (go_at_call 60; refine (has_any _ _ _ (by omega) (by omega) (by omega) (by omega)).mono ?_; rintro e w1 ⟨rfl, rfl⟩)
        go_roundw
        case rel => exact ⟨k + 1, by omega, by go_num, by simpa [sayTo, ha] using hown, hB⟩
        case measure => simp [intOf]; omega
      · have hlen := sayTo_len s k
        have hsz := hB.size
        go_wp2_with (first
          | (go_at_call 60; refine (has_any _ _ _ (by omega) (by omega) (by omega) (by omega)).mono ?_; rintro e w1 ⟨rfl, hw1⟩; subst w1)
          | (at_builtin; refine wpList_append_own _ rfl _ _ 22 rfl w.heap.size 5 i0 (.int .u8 0) 1 1 Try.underlying22 hi hz0 hz1 hz2 rfl (by decide) _ _ _ rfl (hown.alloc _) ⟨wr.heap.size, 0, none⟩ 1 1 [.int .u8 (48 + (k : Int))] rfl rfl ?c1 ?c2 ?c3 ?c4 ?c5 ?_))
        case c1 =>
          intro j u hj
          match j, hj with
          | 0, hj => simp at hj; subst hj; simp [Addr.add]
        case c2 => intro u hu; simp at hu; subst hu; rfl
        case c3 => unfold maxLen; omega
        case c4 => omega
        case c5 => simp; omega
        intro v' w2 hown' hgrow' _
        have hB2 : Below w.heap.size w w2 := (hB.alloc (by omega) _).grown hgrow' (by simp; omega) (fun j hj => by have := (hown.lt j hj).1; omega)
        clear hgrow' hown hB
        go_wp2
        go_roundw
        case rel => exact ⟨k + 1, by omega, by go_num, by simpa [sayTo, ha] using hown', hB2⟩
        case measure => simp [intOf]; omega
    · have : k = 3 := by omega
      subst this
      have hcv : ∀ dst, Try.prog.underlying dst = some .string → (convert 22 dst u3).run Try.prog wr = .ok (.string (strOfNums (sayTo s 3))) wr := row_text hown
      have HB : Hid (Below w.heap.size w wr) := hB
      clear hown hB
      have hcv9 := hcv 9 Try.underlying9
      clear hcv
      go_wp2
      go_ret
      exact ⟨rfl, HB.out⟩

end Go.Proofs.Ytbkgkpfekbnpiaa
