/- Rows that turn, as the program and the model look at them; sets that are turned. -/
import Derived.Test.YthcgdhlemieboaaGreatTkTrn
import Derived.Test.YthcgdhlemieboaaGreatTkRwx
namespace Go.Proofs.YthcgdhlemieboaaGreat
open Go.RowKit
set_option linter.unusedSimpArgs false
set_option linter.unusedVariables false
attribute [local go_sem] World.cell?_alloc_some

theorem with2_any (s h : Int) (w : World) (s0 : 0 ≤ s) (s7 : s ≤ 7) (h0 : 0 ≤ h) (h1 : h ≤ 2) :
    Calls Tryz.prog 73 #[.int .i64 s, .int .i64 h] w fun e w' => e = .returned (.int .i64 (orI s (2 ^ h.toNat))) ∧ w' = w := by
  have hp : ∀ h : Int, 0 ≤ h → h ≤ 2 → wrap64 (2 ^ h.toNat) = 2 ^ h.toNat ∧ 0 ≤ (2 : Int) ^ h.toNat ∧ (2 : Int) ^ h.toNat ≤ 7 := all3 (by decide +kernel)
  obtain ⟨p1, p2, p3⟩ := hp h h0 h1
  rw [← bits_or s0 s7 p2 p3, ← p1]
  clear p1 p2 p3 hp
  go_enter Tryz.func73, Tryz.ntmps73
  go_wp2
  go_ret
  exact ⟨rfl, rfl⟩

theorem GRep.take {α : Type} {f : α → Value} {w : World} {a : Option Addr} {n c : Nat} {xs : List α} (h : GRep f w (.slice a n c) xs) (i : Nat) (hi : i ≤ xs.length) : GRep f w (.slice a i c) (xs.take i) := by
  obtain ⟨a', c', he, hl, hc, hcell⟩ := h
  cases he
  have hl2 : (xs.take i).length = i := by simp; omega
  refine ⟨a, c, by rw [hl2], by omega, hc, fun k hk => ?_⟩
  obtain ⟨b, off, h1, h2⟩ := hcell k (by omega)
  exact ⟨b, off, h1, by rw [List.getElem_take]; exact h2⟩

theorem contains_take (zs : List Int) (x : Int) (i : Nat) (hi : i < zs.length) : (zs.take (i + 1)).contains x = ((zs.take i).contains x || (x == zs[i])) := by
  rw [List.take_succ_eq_append_getElem hi]
  simp only [List.contains_eq_any_beq, List.any_append, List.any_cons, List.any_nil, Bool.or_false]
theorem contains_of_take {zs : List Int} {x : Int} {i : Nat} (hi : i < zs.length) (h : (x == zs[i]) = true) : zs.contains x = true := by
  have : x = zs[i] := by simpa using h
  subst this
  simp

theorem nIndex_any {v : Value} {zs : List Int} {w : World} (x : Int) (hL : GRep (Value.int .i64) w v zs) :
    Calls Tryz.prog 72 #[v, .int .i64 x] w fun e w' => (∃ z : Int, e = .returned (.int .i64 z) ∧ decide (0 ≤ z) = zs.contains x) ∧ w' = w := by
  obtain ⟨la, lc, rfl, hlc, hcm, hcell⟩ := hL
  have hlm : (zs.length : Int) ≤ 9223372036854775807 := by unfold maxLen at hcm; omega
  have HC : Hid _ := hcell
  clear hcell
  go_enter Tryz.func72, Tryz.ntmps72
  go_wp2
  go_loopw [8] (fun j wr => ∃ (i : Nat), i ≤ zs.length ∧ j = .int .i64 i ∧ wr = w ∧ (zs.take i).contains x = false) (fun j _ => zs.length - (intOf j).toNat)
  case atStart => exact ⟨0, by omega, rfl, rfl, by simp⟩
  case round =>
    obtain ⟨i, hi, rfl, hw, hst⟩ := hrel
    subst hw
    by_cases hlt : i < zs.length
    · obtain ⟨b, off, rfl, h0⟩ := HC.out i hlt
      have i0' : (0 : Int) ≤ (i : Int) := by omega
      have i1' : (i : Int) < (zs.length : Int) := by omega
      have q3 := contains_take zs x i hlt
      rw [hst, Bool.false_or] at q3
      have HO : Hid ((zs.take (i + 1)).contains x = (x == zs[i])) := q3
      have HQ : Hid ((x == zs[i]) = true → zs.contains x = true) := contains_of_take hlt
      clear q3 hst
      generalize zs[i] = y at *
      obtain ⟨r, hr⟩ : ∃ r, (x == y) = r := ⟨_, rfl⟩
      rw [hr] at HO HQ
      cases r
      · go_wp2
        exact ⟨⟨i + 1, by omega, by simp, by simp, HO.out⟩, by simp [intOf]; omega⟩
      · go_wp2
        go_ret
        exact ⟨⟨i, rfl, by have q : x ∈ zs := (by simpa using HQ.out (by simp)); simp [q]⟩, rfl⟩
    · have : i = zs.length := by omega
      subst this
      rw [List.take_length] at hst
      have HST : Hid _ := hst
      clear hst
      go_wp2
      go_ret
      exact ⟨⟨-1, rfl, by rw [HST.out]; rfl⟩, rfl⟩

theorem nContains_any {v : Value} {zs : List Int} {w : World} (x : Int) (hL : GRep (Value.int .i64) w v zs) :
    Calls Tryz.prog 51 #[v, .int .i64 x] w fun e w' => e = .returned (.bool (zs.contains x)) ∧ w' = w := by
  have C1 : Hid _ := nIndex_any x hL
  obtain ⟨la, lc, rfl, -⟩ := hL
  go_enter Tryz.func51, Tryz.ntmps51
  go_wp2_with fail
  go_at_call 72; refine Calls.mono C1.out ?_; rintro e w1 ⟨⟨z, rfl, hz⟩, rfl⟩
  have HZ : Hid _ := hz
  clear hz
  go_wp2
  go_ret
  exact ⟨by rw [← HZ.out]; rfl, rfl⟩

theorem isRow_any {v : Value} {zs : List Int} {w : World} (n : Nat) (hL : GRep (Value.int .i64) w v zs) :
    Calls Tryz.prog 25 #[v, .int .i64 n] w fun e w' => e = .returned (.bool (rowB zs n)) ∧ w' = w := by
  have HL : Hid _ := hL
  obtain ⟨la, lc, rfl, hlc, hcm, hcell⟩ := hL
  have hlm : (zs.length : Int) ≤ 9223372036854775807 := by unfold maxLen at hcm; omega
  have HC : Hid _ := hcell
  have HE : Hid (rowB zs n = (decide (zs.length = n) && (zs.all (fun z => vIn n z) && decide zs.Nodup))) := rfl
  have HF : Hid (∀ i (hi : i < zs.length), (vIn n zs[i] && !(zs.take i).contains zs[i]) = false → rowB zs n = false) := (show ∀ i (hi : i < zs.length), _ from fun i hi => rowTo_false hi)
  have HS : Hid (∀ i (hi : i < zs.length), rowTo zs n (i + 1) = (rowTo zs n i && (vIn n zs[i] && !(zs.take i).contains zs[i]))) := (show ∀ i (hi : i < zs.length), _ from fun i hi => rowTo_succ hi)
  have HA : Hid (rowTo zs n zs.length = true → rowB zs n = decide (zs.length = n)) := (show _ → _ from rowTo_all)
  clear hcell
  generalize rowB zs n = res at *
  by_cases hlen : zs.length = n
  · have hlen' : (zs.length : Int) = (n : Int) := by omega
    have HLE : Hid (decide (zs.length = n) = true) := (show decide (zs.length = n) = true from decide_eq_true hlen)
    clear hlen
    go_enter Tryz.func25, Tryz.ntmps25
    go_wp2
    go_loopw [13] (fun j wr => ∃ (i : Nat), i ≤ zs.length ∧ j = .int .i64 i ∧ wr = w ∧ rowTo zs n i = true) (fun j _ => zs.length - (intOf j).toNat)
    case atStart => exact ⟨0, by omega, rfl, rfl, rfl⟩
    case round =>
      obtain ⟨i, hi, rfl, hw, hst⟩ := hrel
      subst hw
      by_cases hlt : i < zs.length
      · obtain ⟨b, off, rfl, h0⟩ := HC.out i hlt
        have i0' : (0 : Int) ≤ (i : Int) := by omega
        have i1' : (i : Int) < (zs.length : Int) := by omega
        have q3 := HS.out i hlt
        rw [hst, Bool.true_and] at q3
        have HO : Hid _ := q3
        have HQ : Hid _ := HF.out i hlt
        have KC : Hid _ := nContains_any zs[i] (GRep.take HL.out i (by omega))
        have hic : (i : Int) ≤ (lc : Int) := by omega
        clear q3 hst
        generalize zs[i] = y at *
        generalize (zs.take i).contains y = fo at *
        obtain ⟨vi, hvi⟩ : ∃ r, vIn n y = r := ⟨_, rfl⟩
        rw [hvi] at HO HQ
        cases vi
        · go_wp2_with (go_at_call 18; refine (isBelow_any _ _ _).mono ?_; rintro e w2 ⟨rfl, rfl⟩; rw [hvi])
          go_ret
          exact ⟨by rw [HQ.out (by simp)]; first | done | rfl, rfl⟩
        · cases fo
          · go_wp2_with (first
              | (go_at_call 18; refine (isBelow_any _ _ _).mono ?_; rintro e w2 ⟨rfl, rfl⟩; rw [hvi])
              | (go_at_call 51; refine Calls.mono KC.out ?_; rintro e w3 ⟨rfl, rfl⟩))
            exact ⟨⟨i + 1, by omega, by simp, by simp, HO.out⟩, by simp [intOf]; omega⟩
          · go_wp2_with (first
              | (go_at_call 18; refine (isBelow_any _ _ _).mono ?_; rintro e w2 ⟨rfl, rfl⟩; rw [hvi])
              | (go_at_call 51; refine Calls.mono KC.out ?_; rintro e w3 ⟨rfl, rfl⟩))
            go_ret
            exact ⟨by rw [HQ.out (by simp)]; first | done | rfl, rfl⟩
      · have : i = zs.length := by omega
        subst this
        have HST : Hid _ := hst
        clear hst
        go_wp2
        go_ret
        exact ⟨by rw [HA.out HST.out, HLE.out]; first | done | rfl, rfl⟩
  · have hne : ¬ (zs.length : Int) = (n : Int) := by omega
    have HE' : Hid (res = false) := (show res = false by rw [HE.out, decide_eq_false hlen]; rfl)
    clear hlen
    go_enter Tryz.func25, Tryz.ntmps25
    go_wp2
    go_ret
    exact ⟨by rw [HE'.out]; first | done | rfl, rfl⟩

def hasTo (zs : List Int) (x : Int) (k : Nat) : Bool := (zs.take k).contains x
theorem turned_any {v : Value} {zs : List Int} {w : World} (s : Int) (h0 : 0 ≤ s) (h7 : s ≤ 7) (hr : rowB zs 3 = true) (hL : GRep (Value.int .i64) w v zs) :
    Calls Tryz.prog 53 #[.int .i64 s, v] w fun e w' => e = .returned (.int .i64 (turnI s zs)) ∧ w' = w := by
  have hl3 := rowB_len hr
  obtain ⟨la, lc, rfl, hlc, hcm, hcell⟩ := hL
  have hlm : (zs.length : Int) ≤ 9223372036854775807 := by unfold maxLen at hcm; omega
  have HC : Hid _ := hcell
  have HR : Hid _ := hr
  clear hcell hr
  rw [hl3]
  go_enter Tryz.func53, Tryz.ntmps53
  go_wp2
  go_loopw [5, 10] (fun o j wr => ∃ (i : Nat), i ≤ 3 ∧ j = .int .i64 i ∧ wr = w ∧ o = .int .i64 (turnTo s zs i)) (fun _ j _ => 3 - (intOf j).toNat)
  case atStart => exact ⟨0, by omega, rfl, rfl, rfl⟩
  case round =>
    obtain ⟨i, hi, rfl, hw, rfl⟩ := hrel
    subst hw
    by_cases hlt : i < 3
    · obtain ⟨b, off, rfl, c0⟩ := HC.out i (by omega)
      have i0' : (0 : Int) ≤ (i : Int) := by omega
      have i1' : (i : Int) < (3 : Int) := by omega
      obtain ⟨y0, y1⟩ := rowB_in HR.out i (by omega)
      have hg : zs.getD i 0 = zs[i]'(by omega) := by simp [List.getD_eq_getElem?_getD, List.getElem?_eq_getElem (show i < zs.length by omega)]
      have ho := turnTo_or HR.out h0 h7 i hlt
      have hsu := turnTo_succ s zs i
      rw [hg] at ho hsu
      obtain ⟨t0, t1⟩ := turnTo_bd HR.out h0 h7 i (by omega)
      have HSU : Hid _ := hsu
      have HO : Hid _ := ho
      clear hg ho hsu
      generalize zs[i]'(by omega) = y at *
      generalize turnTo s zs i = t at *
      cases hb : hasB s (i : Int)
      · go_wp2_with (go_at_call 67; refine (has_any _ _ _ (by omega) (by omega) (by omega) (by omega)).mono ?_; rintro e w1 ⟨rfl, rfl⟩; rw [hb])
        exact ⟨⟨i + 1, by omega, by simp, by simp, by rw [HSU.out, hb]; simp⟩, by simp [intOf]; omega⟩
      · go_wp2_with (first
          | (go_at_call 67; refine (has_any _ _ _ (by omega) (by omega) (by omega) (by omega)).mono ?_; rintro e w1 ⟨rfl, rfl⟩; rw [hb])
          | (go_at_call 73; refine (with2_any _ _ _ (by omega) (by omega) (by omega) (by omega)).mono ?_; rintro e w1 ⟨rfl, rfl⟩; rw [HO.out]))
        exact ⟨⟨i + 1, by omega, by simp, by simp, by rw [HSU.out, hb]; simp⟩, by simp [intOf]; omega⟩
    · have : i = 3 := by omega
      subst this
      go_wp2
      go_ret
      exact ⟨rfl, rfl⟩

end Go.Proofs.YthcgdhlemieboaaGreat
