/- strings.Cut at the mark of a label's text. -/
import Derived.Test.YtbkgkpfekbnpiaaExT
import Derived.Laws.Externs
namespace Go.Proofs.Ytbkgkpfekbnpiaa
open Go.RowKit
set_option linter.unusedSimpArgs false
set_option linter.unusedVariables false

theorem indexByte_any (s : ByteArray) (w : World) :
    Calls Try.prog 65 #[.string s, .int .u8 33] w fun e w' => e = .returned (.int .i64 (firstIdx s 33)) ∧ w' = w := by
  have hx : ∀ w, (callFunc 69 #[.string s, .int .u8 33]).run Try.prog w = .ok (.value (.int .i64 (firstIdx s 33))) w := by
    intro w
    rw [run_callFunc_extern (fn := Try.f69) (e := Extern.BytealgIndexByte.indexByte) (by kernel_rfl) (by kernel_rfl) (by kernel_rfl) (by kernel_rfl) (by rfl), run_indexByte_string]
    rfl
  go_enter Try.func65, Try.ntmps65
  go_wp2
  go_ret
  exact ⟨rfl, rfl⟩

theorem bytes_eq {a b : ByteArray} (h : a.data.toList = b.data.toList) : a = b := by
  cases a; cases b
  simp only [ByteArray.mk.injEq]
  exact Array.toList_inj.1 h
theorem index_any (s : ByteArray) (w : World) :
    Calls Try.prog 64 #[.string s, .string { data := #[33] }] w fun e w' => e = .returned (.int .i64 (firstIdx s 33)) ∧ w' = w := by
  by_cases hse : s = { data := #[33] }
  · have h0 : firstIdx s 33 = 0 := by subst hse; decide
    rw [h0]
    have h1 : ([33] == s.toList) = true := by subst hse; rw [ByteArray.toList_eq]; rfl
    go_enter Try.func64, Try.ntmps64
    go_wp2
    go_ret
    exact ⟨rfl, rfl⟩
  · have h1 : ([33] == s.toList) = false := by
      rw [ByteArray.toList_eq, beq_eq_false_iff_ne]
      intro h
      exact hse (bytes_eq h.symm)
    clear hse
    go_enter Try.func64, Try.ntmps64
    go_wp2_with (go_at_call 65; refine (indexByte_any _ _).mono ?_; rintro e w1 ⟨rfl, rfl⟩)
    go_ret
    exact ⟨rfl, rfl⟩

/-- What stands ahead of the mark, and behind it. -/
theorem cutS_hit (s : ByteArray) (i : Nat) (w : World) (hi : firstIdx s 33 = (i : Int)) (hl : i < s.size) (hm : s.size ≤ maxLen) :
    Calls Try.prog 62 #[.string s, .string { data := #[33] }] w fun e w' => e = .returned (.tuple #[.string (s.extract 0 i), .string (s.extract (i + 1) s.size), .bool true]) ∧ Below w.heap.size w w' := by
  unfold maxLen at hm
  have c1 : (0 : Int) ≤ (i : Int) := by omega
  have c2 : (i : Int) ≤ (s.size : Int) := by omega
  have c3 : (0 : Int) ≤ (i : Int) + 1 := by omega
  have c4 : (i : Int) + 1 ≤ (s.size : Int) := by omega
  go_enter Try.func62, Try.ntmps62
  go_wp2_with (go_at_call 64; refine (index_any _ _).mono ?_; rintro e w1 ⟨rfl, rfl⟩; rw [hi])
  go_region
  go_wp2
  go_ret3
  exact ⟨rfl, (Below.refl _ _).drew⟩
theorem cutS_miss (s : ByteArray) (w : World) (hi : firstIdx s 33 = -1) :
    Calls Try.prog 62 #[.string s, .string { data := #[33] }] w fun e w' => e = .returned (.tuple #[.string s, .string { data := #[] }, .bool false]) ∧ Below w.heap.size w w' := by
  go_enter Try.func62, Try.ntmps62
  go_wp2_with (go_at_call 64; refine (index_any _ _).mono ?_; rintro e w1 ⟨rfl, rfl⟩; rw [hi])
  go_ret3
  exact ⟨rfl, Below.refl _ _⟩

theorem cut_hit (s : ByteArray) (i : Nat) (w : World) (hi : firstIdx s 33 = (i : Int)) (hl : i < s.size) (hm : s.size ≤ maxLen) :
    Calls Try.prog 52 #[.string s, .string { data := #[33] }] w fun e w' => e = .returned (.tuple #[.string (s.extract 0 i), .string (s.extract (i + 1) s.size), .bool true]) ∧ Below w.heap.size w w' := by
  go_enter Try.func52, Try.ntmps52
  go_wp2_with fail
  refine (cutS_hit s i _ hi hl hm).mono ?_; rintro e w1 ⟨rfl, hb⟩
  go_wp2
  go_ret3
  exact ⟨rfl, hb⟩
theorem cut_miss (s : ByteArray) (w : World) (hi : firstIdx s 33 = -1) :
    Calls Try.prog 52 #[.string s, .string { data := #[33] }] w fun e w' => e = .returned (.tuple #[.string s, .string { data := #[] }, .bool false]) ∧ Below w.heap.size w w' := by
  go_enter Try.func52, Try.ntmps52
  go_wp2_with fail
  refine (cutS_miss s _ hi).mono ?_; rintro e w1 ⟨rfl, hb⟩
  go_wp2
  go_ret3
  exact ⟨rfl, hb⟩

/-- One byte of a text of hosts: the set so far, and the least host that may follow. -/
def rdStep (o : Option (Int × Int)) (b : UInt8) : Option (Int × Int) :=
  match o with
  | none => none
  | some (v, l) => if (b.toNat : Int) - 48 < l ∨ 3 ≤ (b.toNat : Int) - 48 then none else some (orI v (2 ^ ((b.toNat : Int) - 48).toNat), (b.toNat : Int) - 48 + 1)
def rd (L : List UInt8) : Option (Int × Int) := L.foldl rdStep (some (0, 0))
theorem rd_none (L : List UInt8) : L.foldl rdStep none = none := by
  induction L with
  | nil => rfl
  | cons b L ih => exact ih
theorem rd_snoc (L : List UInt8) (b : UInt8) : rd (L ++ [b]) = rdStep (rd L) b := by simp [rd, List.foldl_append]
theorem rd_app (L M : List UInt8) : rd (L ++ M) = M.foldl rdStep (rd L) := by simp [rd, List.foldl_append]
def rdV (L : List UInt8) : Int := ((rd L).map (·.1)).getD 0

theorem with_any (s h : Int) (w : World) (s0 : 0 ≤ s) (s7 : s ≤ 7) (h0 : 0 ≤ h) (h1 : h ≤ 2) :
    Calls Try.prog 63 #[.int .i64 s, .int .i64 h] w fun e w' => e = .returned (.int .i64 (orI s (2 ^ h.toNat))) ∧ w' = w := by
  have hp : ∀ h : Int, 0 ≤ h → h ≤ 2 → wrap64 (2 ^ h.toNat) = 2 ^ h.toNat ∧ 0 ≤ (2 : Int) ^ h.toNat ∧ (2 : Int) ^ h.toNat ≤ 7 := all3 (by decide +kernel)
  obtain ⟨p1, p2, p3⟩ := hp h h0 h1
  rw [← bits_or s0 s7 p2 p3, ← p1]
  clear p1 p2 p3 hp
  go_enter Try.func63, Try.ntmps63
  go_wp2
  go_ret
  exact ⟨rfl, rfl⟩

theorem take_snoc (s : ByteArray) (k : Nat) (h : k < s.size) : s.data.toList.take (k + 1) = s.data.toList.take k ++ [s[k]] := by
  rw [List.take_succ_eq_append_getElem (by simpa using h)]; rfl

set_option maxHeartbeats 1000000 in
theorem readHosts_any (s : ByteArray) (w : World) (hm : s.size ≤ maxLen) :
    Calls Try.prog 53 #[.string s] w fun e w' => e = .returned (.tuple #[.int .i64 (rdV s.data.toList), .bool (rd s.data.toList).isSome]) ∧ w' = w := by
  unfold maxLen at hm
  go_enter Try.func53, Try.ntmps53
  go_wp2
  go_loop [4, 5, 10] (fun st le i => ∃ (k : Nat) (v l : Int), k ≤ s.size ∧ i = .int .i64 k ∧ st = .int .i64 v ∧ le = .int .i64 l ∧ Hid (rd (s.data.toList.take k) = some (v, l)) ∧ (0 ≤ v ∧ v ≤ 7) ∧ (0 ≤ l ∧ l ≤ 3)) (fun _ _ i => s.size - (intOf i).toNat)
  case atStart => exact ⟨0, 0, 0, by omega, rfl, rfl, rfl, (show rd _ = _ by simp [rd]), by omega, by omega⟩
  case round =>
    obtain ⟨k, v, l, hk, rfl, rfl, rfl, HR, hv, hl⟩ := hrel
    by_cases hlt : k < s.size
    · have HS : Hid (rd (s.data.toList.take (k + 1)) = rdStep (some (v, l)) s[k]) := (show rd _ = _ by rw [take_snoc s k hlt, rd_snoc, HR.out])
      have HN : Hid (rdStep (some (v, l)) s[k] = none → rd s.data.toList = none) := (show _ → _ by
        intro h
        rw [← List.take_append_drop (k + 1) s.data.toList, rd_app, HS.out, h]
        exact rd_none _)
      have hb : (s[k].toNat : Int) ≤ 255 := by have := s[k].toNat_lt; omega
      have hb0 : (0 : Int) ≤ (s[k].toNat : Int) := by omega
      have ho : ∀ h : Int, 0 ≤ h → h ≤ 2 → 0 ≤ (2 : Int) ^ h.toNat ∧ (2 : Int) ^ h.toNat ≤ 7 := all3 (by decide +kernel)
      have HO : Hid (0 ≤ (s[k].toNat : Int) - 48 → (s[k].toNat : Int) - 48 ≤ 2 → 0 ≤ orI v (2 ^ ((s[k].toNat : Int) - 48).toNat) ∧ orI v (2 ^ ((s[k].toNat : Int) - 48).toNat) ≤ 7) := (show _ → _ from fun h0 h2 => orI_bd hv.1 hv.2 (ho _ h0 h2).1 (ho _ h0 h2).2)
      clear ho
      by_cases h1 : (s[k].toNat : Int) - 48 < l
      · have HZ : Hid (rd s.data.toList = none) := (show rd _ = _ from HN.out (by simp [rdStep, h1]))
        go_wp2
        go_ret2
        exact ⟨by simp [rdV, HZ.out], rfl⟩
      · have h1d : decide ((s[k].toNat : Int) - 48 < l) = false := by simpa using h1
        by_cases h2 : 3 ≤ (s[k].toNat : Int) - 48
        · have HZ : Hid (rd s.data.toList = none) := (show rd _ = _ from HN.out (by simp only [rdStep]; rw [if_pos (Or.inr h2)]))
          go_wp2
          go_ret2
          exact ⟨by simp [rdV, HZ.out], rfl⟩
        · have HT : Hid (rd (s.data.toList.take (k + 1)) = some (orI v (2 ^ ((s[k].toNat : Int) - 48).toNat), (s[k].toNat : Int) - 48 + 1)) := (show rd _ = _ by rw [HS.out]; simp only [rdStep]; rw [if_neg (by omega)])
          have hO := HO.out (by omega) (by omega)
          have h2d : decide (3 ≤ (s[k].toNat : Int) - 48) = false := by simpa using h2
          go_wp2_with (go_at_call 63; refine (with_any _ _ _ (by omega) (by omega) (by omega) (by omega)).mono ?_; rintro e w1 ⟨rfl, rfl⟩)
          go_round
          case rel => exact ⟨k + 1, _, _, by omega, by go_num, rfl, rfl, HT.out, hO, by omega⟩
          case measure => simp [intOf]; omega
    · have : k = s.size := by omega
      subst this
      have HE : Hid (rd s.data.toList = some (v, l)) := (show rd _ = _ by rw [← HR.out, List.take_of_length_le (by simp)])
      go_wp2
      go_ret2
      exact ⟨by simp [rdV, HE.out], rfl⟩

end Go.Proofs.Ytbkgkpfekbnpiaa
