/- A label has just one text: walked. -/
import Derived.Test.YtbkgkpfekbnpiaaSrd
import Derived.Test.YtbkgkpfekbnpiaaWBack
namespace Go.Proofs.Ytbkgkpfekbnpiaa
open Go.RowKit
set_option linter.unusedSimpArgs false
set_option linter.unusedVariables false
attribute [local go_sem] World.cell?_alloc_some

/-- A row of short texts in a block. -/
def STab (w : World) (b n : Nat) : Prop := ∀ i, i < n → ∃ st : ByteArray, w.cell? ⟨b, i, none⟩ = some (.string st) ∧ st.size ≤ 8
theorem STab.oth {w w' : World} {r b n : Nat} (h : STab w b n) (k : Oth r w w') (hb : b ≠ r) : STab w' b n := by
  intro i hi
  obtain ⟨st, h1, h2⟩ := h i hi
  exact ⟨st, k.cell hb h1, h2⟩
theorem of_any (w : World) (r p b n : Nat) (h : Rdr w r p) (hp : p ≤ 999000) (hb : b ≠ r) (ht : STab w b n) (n1 : 1 ≤ n) (n2 : n ≤ 1000) :
    Calls Try.prog 55 #[.pointer (some ⟨r, 0, none⟩), .slice (some ⟨b, 0, none⟩) n n] w fun e w' => ∃ st, e = .returned (.string st) ∧ st.size ≤ 8 ∧ Rdr w' r (p + 1) ∧ Oth r w w' := by
  go_enter Try.func55, Try.ntmps55
  go_wp2_with fail
  refine (pick_r _ r p (n : Int) h (by omega) (by omega) (by omega)).mono ?_
  rintro e w1 ⟨k, rfl, k0, k1, hR, hO⟩
  obtain ⟨i, rfl⟩ := Int.eq_ofNat_of_zero_le k0
  obtain ⟨st, h1, h2⟩ := (ht.oth hO hb) i (by omega)
  have HO : Hid (Oth r w w1) := hO
  have HR : Hid (Rdr w1 r (p + 1)) := hR
  clear hO hR ht
  go_wp2
  go_ret
  exact ⟨st, rfl, h2, HR.out, HO.out⟩

theorem STab_alloc (x : World) (L : List ByteArray) (t : TypeId) (hL : (L.all fun s => decide (s.size ≤ 8)) = true) : STab (x.alloc (.cells (L.map Value.string).toArray t)) x.heap.size L.length := by
  intro i hi
  refine ⟨L[i], by simp [go_sem, hi], ?_⟩
  have := List.all_eq_true.1 hL L[i] (List.getElem_mem hi)
  simpa using this

set_option maxHeartbeats 2000000 in
theorem drawRead_any (w : World) (a0 : Option Addr) (len0 cap0 : Nat) (zs : List Int) (h : IsRow .u8 w a0 len0 cap0 zs) :
    Calls Try.prog 32 #[.slice a0 len0 cap0] w fun e w' => ∃ st, e = .returned (.string st) ∧ st.size ≤ 100 ∧ Below w.heap.size w w' := by
  go_enter Try.func32, Try.ntmps32
  go_wp2_with fail
  refine (l6Open_any _ a0 len0 cap0 zs h).mono ?_
  rintro e w1 ⟨rfl, hR, hs, hb⟩
  have HB : Hid (Below w.heap.size w w1) := hb
  have HR : Hid (Rdr w1 w.heap.size 0) := hR
  clear hR hb
  go_wp2_with fail
  refine (l71Label_any _ w.heap.size 0 HR.out (by omega)).mono ?_
  rintro e w2 ⟨k, t, rfl, hk, ⟨q, hq, hR⟩, hO⟩
  replace HB : Hid (Below w.heap.size w w2) := HB.out.trans (hO.below (Nat.le_refl _) (by omega))
  replace HR : Hid (Rdr w2 w.heap.size q) := hR
  have s2 := hO.size
  clear hR hO
  go_wp2_with fail
  refine (sLabelText_any _ _ _).mono ?_
  rintro e w3 ⟨rfl, hb⟩
  have hsz : (textOf k t).size ≤ 7 := by
    have l1 := sayTo_len k 3
    have l2 := sayTo_len t 3
    unfold textOf
    split
    · rw [ByteArray.size_append, ByteArray.size_append, strOfNums_size, strOfNums_size]
      have : ({ data := #[33] } : ByteArray).size = 1 := rfl
      omega
    · decide
  generalize textOf k t = tx at *
  replace HB : Hid (Below w.heap.size w w3) := below_then2 hb HB.out
  replace HR : Hid (Rdr w3 w.heap.size q) := HR.out.below hb
  have s3 := hb.size
  clear hb
  go_wp2_with fail
  refine (pick_r _ w.heap.size q 4 HR.out (by omega) (by omega) (by omega)).mono ?_
  rintro e w4 ⟨n, rfl, n0, n1, hR, hO⟩
  replace HB : Hid (Below w.heap.size w w4) := HB.out.trans (hO.below (Nat.le_refl _) (by omega))
  replace HR : Hid (Rdr w4 w.heap.size (q + 1)) := hR
  have s4 := hO.size
  clear hR hO
  have hn : n = 0 ∨ n = 1 ∨ 2 ≤ n := by omega
  rcases hn with rfl | rfl | hn
  · go_wp2_with fail
    refine (of_any _ w.heap.size (q + 1) w4.heap.size 10 (HR.out.alloc _) (by omega) (by omega) (by exact STab_alloc w4 [{ data := #[] }, { data := #[33] }, { data := #[48] }, { data := #[48, 49, 33] }, { data := #[49, 48, 33, 50] }, { data := #[48, 48, 33] }, { data := #[51, 33] }, { data := #[48, 33, 49, 33, 50] }, { data := #[48, 49, 50, 33, 48, 49, 50] }, { data := #[33, 48, 32] }] 9 (by decide)) (by omega) (by omega)).mono ?_
    rintro e w5 ⟨st, rfl, hst, hR5, hO5⟩
    replace HB : Hid (Below w.heap.size w w5) := (HB.out.alloc (by omega) _).trans (hO5.below (Nat.le_refl _) (by simp; omega))
    clear hO5 hR5 HR
    go_wp2
    go_ret
    exact ⟨st, rfl, by omega, HB.out⟩
  · go_wp2_with fail
    refine (of_any _ w.heap.size (q + 1) w4.heap.size 3 (HR.out.alloc _) (by omega) (by omega) (by exact STab_alloc w4 [{ data := #[48] }, { data := #[33] }, { data := #[50] }] 9 (by decide)) (by omega) (by omega)).mono ?_
    rintro e w5 ⟨st, rfl, hst, hR5, hO5⟩
    replace HB : Hid (Below w.heap.size w w5) := (HB.out.alloc (by omega) _).trans (hO5.below (Nat.le_refl _) (by simp; omega))
    clear hO5 hR5 HR
    have hz : ¬ 9223372036854775807 < tx.size + st.size := by omega
    go_wp2
    go_ret
    exact ⟨tx ++ st, rfl, by rw [ByteArray.size_append]; omega, HB.out⟩
  · go_wp2
    go_ret
    exact ⟨tx, rfl, by omega, HB.out⟩

set_option maxHeartbeats 2000000 in
theorem fnLabelStrict_walk (a0 : Option Addr) (len0 cap0 : Nat) (z0 : List Int) (w : World) (h : IsRow .u8 w a0 len0 cap0 z0) :
    Calls Try.prog 9 #[.slice a0 len0 cap0] w fun e w' => e = .returned (.bool true) ∧ Below w.heap.size w w' := by
  by_cases hl : (1048576 : Int) < (len0 : Int)
  · go_enter Try.func9, Try.ntmps9
    go_wp2
    go_ret
    exact ⟨rfl, Below.refl _ _⟩
  go_enter Try.func9, Try.ntmps9
  go_wp2_with fail
  refine (drawRead_any _ a0 len0 cap0 z0 h).mono ?_
  rintro e w1 ⟨s, rfl, hs, hb⟩
  have HB : Hid (Below w.heap.size w w1) := hb
  have s1 : w.heap.size ≤ w1.heap.size := hb.size
  have hm : s.size ≤ maxLen := by unfold maxLen; omega
  clear hb
  go_wp2_with fail
  refine (sLabelRead_any _ _).mono ?_; rintro e w2 ⟨rfl, hb2⟩
  have s2 := hb2.size
  replace HB : Hid (Below w.heap.size w w2) := below_then2 hb2 HB.out
  clear hb2
  go_wp2_with fail
  refine (labelRead_any _ _ hm).mono ?_; rintro e w3 ⟨rfl, hb3⟩
  have P1 := (Pair.new w2 (irK s) (irT s) 24).below hb3
  have s3 : w2.heap.size + 1 ≤ w3.heap.size := by have := hb3.size; simpa using this
  replace HB : Hid (Below w.heap.size w w3) := below_then2 hb3 (HB.out.alloc (by omega) _)
  clear hb3
  obtain ⟨x0, x1, _, _⟩ := P1.alloc (.cells #[.int .i64 (irK s), .int .i64 (irT s)] 24)
  obtain ⟨y0, y1, _, _⟩ := Pair.new w3 (irK s) (irT s) 24
  clear P1
  replace HB : Hid (Below w.heap.size w (w3.alloc (.cells #[.int .i64 (irK s), .int .i64 (irT s)] 24))) := HB.out.alloc (by omega) _
  cases hB : irB s
  · have hK : irK s = 0 := by simp [irK, hB]
    have hT : irT s = 0 := by simp [irT, hB]
    rw [hK, hT] at x0 x1 y0 y1 HB
    simp only [hK, hT]
    go_wp2
    go_ret
    exact ⟨by simp, HB.out⟩
  · obtain ⟨hok, he⟩ := text_read s hB
    have heq : ((textOf (irK s) (irT s)).toList == s.toList) = true := by rw [toList_beq]; simpa using he
    clear hok he
    go_wp2_with (go_at_call 29; refine (labelText_any _ _ _).mono ?_; rintro e w9 ⟨rfl, hbx⟩; replace HB := hbThen HB hbx; clear hbx)
    go_ret
    exact ⟨by simp, HB.out⟩

end Go.Proofs.Ytbkgkpfekbnpiaa
