/- A label is read back from its text, and only from that: the mathematics. -/
import Derived.Test.YtbkgkpfekbnpiaaRed
namespace Go.Proofs.Ytbkgkpfekbnpiaa
open Go.RowKit
set_option linter.unusedSimpArgs false
set_option linter.unusedVariables false

/-- The bytes of a set's text. -/
def sayB (s : Int) : List UInt8 := (sayTo s 3).map fun n => UInt8.ofNat n.toNat
theorem sayB_rd : ∀ s : Int, 0 ≤ s → s ≤ 7 → ((rd (sayB s)).map (·.1) = some s) ∧ (sayB s).all (fun b => b != 33) = true :=
  all8 (by decide +kernel)
theorem rd_parts {L : List UInt8} {s : Int} (h : (rd L).map (·.1) = some s) : (rd L).isSome = true ∧ rdV L = s := by
  refine ⟨?_, by rw [rdV, h]; rfl⟩
  cases hr : rd L
  · rw [hr] at h; cases h
  · rfl
def sayL (v : Int) (l : Nat) : List UInt8 := (sayTo v l).map fun n => UInt8.ofNat n.toNat
theorem say_step : ∀ (v : Fin 8) (n : Fin 4) (h : Fin 3), (v.val : Int) < 2 ^ n.val → n.val ≤ h.val →
    orI v.val (2 ^ h.val) < 2 ^ (h.val + 1) ∧ sayL (orI v.val (2 ^ h.val)) (h.val + 1) = sayL v.val n.val ++ [UInt8.ofNat (48 + h.val)] := by decide +kernel
theorem say_end : ∀ (v : Fin 8) (n : Fin 4), (v.val : Int) < 2 ^ n.val → sayL v.val n.val = sayB v.val := by decide +kernel
theorem rd_walk (M : List UInt8) : ∀ (P : List UInt8) (v : Int) (n : Nat) (v' l' : Int), n ≤ 3 → 0 ≤ v → v < 2 ^ n → P = sayL v n → M.foldl rdStep (some (v, (n : Int))) = some (v', l') →
    ∃ n' : Nat, n' ≤ 3 ∧ 0 ≤ v' ∧ v' < 2 ^ n' ∧ P ++ M = sayL v' n' := by
  induction M with
  | nil =>
    intro P v n v' l' hn h0 h1 hP hr
    simp at hr
    obtain ⟨rfl, rfl⟩ := hr
    exact ⟨n, hn, h0, h1, by simpa using hP⟩
  | cons b M ih =>
    intro P v n v' l' hn h0 h1 hP hr
    rw [List.foldl_cons] at hr
    by_cases hc : (b.toNat : Int) - 48 < (n : Int) ∨ 3 ≤ (b.toNat : Int) - 48
    · have : rdStep (some (v, (n : Int))) b = none := by simp only [rdStep]; rw [if_pos hc]
      rw [this, rd_none] at hr
      cases hr
    · have e : rdStep (some (v, (n : Int))) b = some (orI v (2 ^ ((b.toNat : Int) - 48).toNat), (b.toNat : Int) - 48 + 1) := by simp only [rdStep]; rw [if_neg hc]
      rw [e] at hr
      obtain ⟨h, hh⟩ : ∃ h : Nat, (b.toNat : Int) - 48 = (h : Int) := ⟨((b.toNat : Int) - 48).toNat, by omega⟩
      have hb : b = UInt8.ofNat (48 + h) := by
        apply UInt8.toNat_inj.1
        rw [UInt8.toNat_ofNat_of_lt' (by show 48 + h < 256; omega)]
        omega
      have hv8 : v < 8 := by
        have : ∀ n : Fin 4, (2 : Int) ^ n.val ≤ 8 := by decide
        have := this ⟨n, by omega⟩
        simp at this
        omega
      obtain ⟨m, hm⟩ : ∃ m : Nat, v = (m : Int) := ⟨v.toNat, by omega⟩
      subst hm
      have st := say_step ⟨m, by omega⟩ ⟨n, by omega⟩ ⟨h, by omega⟩ h1 (by show n ≤ h; omega)
      rw [hh] at hr
      simp only [Int.toNat_natCast] at hr
      have hr' : M.foldl rdStep (some (orI (m : Int) (2 ^ h), ((h + 1 : Nat) : Int))) = some (v', l') := by rw [← hr]; simp
      have hnn : 0 ≤ orI (m : Int) (2 ^ h) := by unfold orI; omega
      obtain ⟨n', a1, a2, a3, a4⟩ := ih (P ++ [b]) (orI (m : Int) (2 ^ h)) (h + 1) v' l' (by omega) hnn st.1 (by rw [hP, hb]; exact st.2.symm) hr'
      exact ⟨n', a1, a2, a3, by simpa using a4⟩
theorem rd_sayB (L : List UInt8) (v l : Int) (h : rd L = some (v, l)) : (0 ≤ v ∧ v ≤ 7) ∧ L = sayB v := by
  obtain ⟨n, hn, h0, h1, hP⟩ := rd_walk L [] 0 0 v l (by omega) (by omega) (by decide) rfl h
  have hv8 : v < 8 := by
    have : ∀ n : Fin 4, (2 : Int) ^ n.val ≤ 8 := by decide
    have := this ⟨n, by omega⟩
    simp at this
    omega
  obtain ⟨m, hm⟩ : ∃ m : Nat, v = (m : Int) := ⟨v.toNat, by omega⟩
  subst hm
  refine ⟨by omega, ?_⟩
  have := say_end ⟨m, by omega⟩ ⟨n, by omega⟩ h1
  simp only [List.nil_append] at hP
  rw [hP]
  exact this
theorem textOf_bytes {k t : Int} (h : okB k t = true) : (textOf k t).data.toList = sayB k ++ 33 :: sayB t := by
  simp only [textOf, h, if_true, ByteArray.data_append, Array.toList_append]
  simp [sayB, strOfNums]
theorem idx_app (A B : List UInt8) (h : A.all (fun b => b != 33) = true) : Lib.indexByte (A ++ 33 :: B) 33 = (A.length : Int) := by
  induction A with
  | nil => simp [Lib.indexByte]
  | cons a A ih =>
    simp only [List.all_cons, Bool.and_eq_true] at h
    have ha : (a == 33) = false := by simpa using h.1
    have := ih h.2
    simp only [List.cons_append, Lib.indexByte, ha, this]
    have h1 : (((A.length : Int)) == -1) = false := by rw [beq_eq_false_iff_ne]; omega
    simp [h1]
theorem read_text {k t : Int} (h : okB k t = true) : irB (textOf k t) = true ∧ irK (textOf k t) = k ∧ irT (textOf k t) = t := by
  have ia := okB_iff.1 h
  obtain ⟨r1, n1⟩ := sayB_rd k ia.1.1 ia.1.2
  obtain ⟨r2, n2⟩ := sayB_rd t ia.2.1 ia.2.2
  obtain ⟨p1, q1⟩ := rd_parts r1
  obtain ⟨p2, q2⟩ := rd_parts r2
  have hb := textOf_bytes h
  have hf : firstIdx (textOf k t) 33 = ((sayB k).length : Int) := by
    rw [Lib.firstIdx_eq, hb, idx_app _ _ n1]
  have hA : irA (textOf k t) = sayB k := by simp [irA, mk, hf, hb]
  have hZ : irZ (textOf k t) = sayB t := by
    simp only [irZ, mk, hf, hb, Int.toNat_natCast]
    rw [List.drop_append, List.drop_of_length_le (by omega)]
    simp
  have hB : irB (textOf k t) = true := by
    simp only [irB, hA, hZ, hf, p1, p2]
    simp
  refine ⟨hB, ?_, ?_⟩
  · simp only [irK, hB, hA, if_true, q1]
  · simp only [irT, hB, hZ, if_true, q2]
theorem text_read (s : ByteArray) (h : irB s = true) : okB (irK s) (irT s) = true ∧ textOf (irK s) (irT s) = s := by
  have hK : irK s = rdV (irA s) := by simp [irK, h]
  have hT : irT s = rdV (irZ s) := by simp [irT, h]
  simp only [irB, Bool.and_eq_true, decide_eq_true_eq] at h
  obtain ⟨⟨h0, h1⟩, h2⟩ := h
  obtain ⟨⟨v, l⟩, hv⟩ := Option.isSome_iff_exists.1 h1
  obtain ⟨⟨u, m⟩, hu⟩ := Option.isSome_iff_exists.1 h2
  obtain ⟨bv, eA⟩ := rd_sayB _ _ _ hv
  obtain ⟨bu, eZ⟩ := rd_sayB _ _ _ hu
  have e1 : irK s = v := by rw [hK, rdV, hv]; rfl
  have e2 : irT s = u := by rw [hT, rdV, hu]; rfl
  rw [e1, e2]
  have hok : okB v u = true := okB_iff.2 ⟨bv, bu⟩
  refine ⟨hok, ?_⟩
  apply bytes_eq
  rw [textOf_bytes hok, ← eA, ← eZ]
  obtain ⟨i, hi⟩ : ∃ i : Nat, firstIdx s 33 = (i : Int) := ⟨(firstIdx s 33).toNat, by omega⟩
  have hs := (Lib.indexByte_some (l := s.data.toList) (c := 33) (o := i) (by rw [← Lib.firstIdx_eq, hi])).1
  simp only [irA, irZ, mk, hi, Int.toNat_natCast]
  obtain ⟨hlt, hg⟩ := List.getElem?_eq_some_iff.1 hs
  rw [← hg, List.getElem_cons_drop, List.take_append_drop]

end Go.Proofs.Ytbkgkpfekbnpiaa
