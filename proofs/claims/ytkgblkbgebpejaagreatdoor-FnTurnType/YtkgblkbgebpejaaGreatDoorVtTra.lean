/- Rows that turn, as the program and the model look at them; sets that are turned. -/
import Derived.Test.YtkgblkbgebpejaaGreatDoorVtTrn
import Derived.Test.YtkgblkbgebpejaaGreatDoorVtRwx
namespace Go.Proofs.YtkgblkbgebpejaaGreatDoor
open Go.RowKit
set_option linter.unusedSimpArgs false
set_option linter.unusedVariables false
attribute [local go_sem] World.cell?_alloc_some

theorem with2_any (s h : Int) (w : World) (s0 : 0 ≤ s) (s7 : s ≤ 7) (h0 : 0 ≤ h) (h1 : h ≤ 2) :
    Calls Tryz.prog 103 #[.int .i64 s, .int .i64 h] w fun e w' => e = .returned (.int .i64 (orI s (2 ^ h.toNat))) ∧ w' = w := by
  have hp : ∀ h : Int, 0 ≤ h → h ≤ 2 → wrap64 (2 ^ h.toNat) = 2 ^ h.toNat ∧ 0 ≤ (2 : Int) ^ h.toNat ∧ (2 : Int) ^ h.toNat ≤ 7 := all3 (by decide +kernel)
  obtain ⟨p1, p2, p3⟩ := hp h h0 h1
  rw [← bits_or s0 s7 p2 p3, ← p1]
  clear p1 p2 p3 hp
  go_enter Tryz.func103, Tryz.ntmps103
  go_wp2
  go_ret
  exact ⟨rfl, rfl⟩

theorem GRep.take {α : Type} {f : α → Value} {w : World} {a : Option Addr} {n c : Nat} {xs : List α} (h : GRep f w (.slice a n c) xs) (i : Nat) (hi : i ≤ xs.length) : GRep f w (.slice a i c) (xs.take i) := by
  obtain ⟨a', c', he, hl, hc, hcell⟩ := h
  cases he
  have hl2 : (xs.take i).length = i := by simp; omega
  refine ⟨a, c, by rw [hl2], by omega, hc, fun k hk => ?_⟩
  obtain ⟨b, off, h1, h2⟩ := hcell k (by omega)
  exact ⟨b, off, h1, by rw [List.getElem_take]; exact h2⟩

theorem contains_take (zs : List Int) (x : Int) (i : Nat) (hi : i < zs.length) : (zs.take (i + 1)).contains x = ((zs.take i).contains x || (x == zs[i])) := by
  rw [List.take_succ_eq_append_getElem hi]
  simp only [List.contains_eq_any_beq, List.any_append, List.any_cons, List.any_nil, Bool.or_false]
theorem contains_of_take {zs : List Int} {x : Int} {i : Nat} (hi : i < zs.length) (h : (x == zs[i]) = true) : zs.contains x = true := by
  have : x = zs[i] := by simpa using h
  subst this
  simp

theorem nIndex_any {v : Value} {zs : List Int} {w : World} (x : Int) (hL : GRep (Value.int .i64) w v zs) :
    Calls Tryz.prog 101 #[v, .int .i64 x] w fun e w' => (∃ z : Int, e = .returned (.int .i64 z) ∧ decide (0 ≤ z) = zs.contains x) ∧ w' = w := by
  obtain ⟨la, lc, rfl, hlc, hcm, hcell⟩ := hL
  have hlm : (zs.length : Int) ≤ 9223372036854775807 := by unfold maxLen at hcm; omega
  have HC : Hid _ := hcell
  clear hcell
  go_enter Tryz.func101, Tryz.ntmps101
  go_wp2
  go_loopw [8] (fun j wr => ∃ (i : Nat), i ≤ zs.length ∧ j = .int .i64 i ∧ wr = w ∧ (zs.take i).contains x = false) (fun j _ => zs.length - (intOf j).toNat)
  case atStart => exact ⟨0, by omega, rfl, rfl, by simp⟩
  case round =>
    obtain ⟨i, hi, rfl, hw, hst⟩ := hrel
    subst hw
    by_cases hlt : i < zs.length
    · obtain ⟨b, off, rfl, h0⟩ := HC.out i hlt
      have i0' : (0 : Int) ≤ (i : Int) := by omega
      have i1' : (i : Int) < (zs.length : Int) := by omega
      have q3 := contains_take zs x i hlt
      rw [hst, Bool.false_or] at q3
      have HO : Hid ((zs.take (i + 1)).contains x = (x == zs[i])) := q3
      have HQ : Hid ((x == zs[i]) = true → zs.contains x = true) := contains_of_take hlt
      clear q3 hst
      generalize zs[i] = y at *
      obtain ⟨r, hr⟩ : ∃ r, (x == y) = r := ⟨_, rfl⟩
      rw [hr] at HO HQ
      cases r
      · go_wp2
        exact ⟨⟨i + 1, by omega, by simp, by simp, HO.out⟩, by simp [intOf]; omega⟩
      · go_wp2
        go_ret
        exact ⟨⟨i, rfl, by have q : x ∈ zs := (by simpa using HQ.out (by simp)); simp [q]⟩, rfl⟩
    · have : i = zs.length := by omega
      subst this
      rw [List.take_length] at hst
      have HST : Hid _ := hst
      clear hst
      go_wp2
      go_ret
      exact ⟨⟨-1, rfl, by rw [HST.out]; rfl⟩, rfl⟩

theorem nContains_any {v : Value} {zs : List Int} {w : World} (x : Int) (hL : GRep (Value.int .i64) w v zs) :
    Calls Tryz.prog 77 #[v, .int .i64 x] w fun e w' => e = .returned (.bool (zs.contains x)) ∧ w' = w := by
  have C1 : Hid _ := nIndex_any x hL
  obtain ⟨la, lc, rfl, -⟩ := hL
  go_enter Tryz.func77, Tryz.ntmps77
  go_wp2_with fail
  go_at_call 101; refine Calls.mono C1.out ?_; rintro e w1 ⟨⟨z, rfl, hz⟩, rfl⟩
  have HZ : Hid _ := hz
  clear hz
  go_wp2
  go_ret
  exact ⟨by rw [← HZ.out]; rfl, rfl⟩

theorem isRow_any {v : Value} {zs : List Int} {w : World} (n : Nat) (hL : GRep (Value.int .i64) w v zs) :
    Calls Tryz.prog 38 #[v, .int .i64 n] w fun e w' => e = .returned (.bool (rowB zs n)) ∧ w' = w := by
  have HL : Hid _ := hL
  obtain ⟨la, lc, rfl, hlc, hcm, hcell⟩ := hL
  have hlm : (zs.length : Int) ≤ 9223372036854775807 := by unfold maxLen at hcm; omega
  have HC : Hid _ := hcell
  have HE : Hid (rowB zs n = (decide (zs.length = n) && (zs.all (fun z => vIn n z) && decide zs.Nodup))) := rfl
  have HF : Hid (∀ i (hi : i < zs.length), (vIn n zs[i] && !(zs.take i).contains zs[i]) = false → rowB zs n = false) := (show ∀ i (hi : i < zs.length), _ from fun i hi => rowTo_false hi)
  have HS : Hid (∀ i (hi : i < zs.length), rowTo zs n (i + 1) = (rowTo zs n i && (vIn n zs[i] && !(zs.take i).contains zs[i]))) := (show ∀ i (hi : i < zs.length), _ from fun i hi => rowTo_succ hi)
  have HA : Hid (rowTo zs n zs.length = true → rowB zs n = decide (zs.length = n)) := (show _ → _ from rowTo_all)
  clear hcell
  generalize rowB zs n = res at *
  by_cases hlen : zs.length = n
  · have hlen' : (zs.length : Int) = (n : Int) := by omega
    have HLE : Hid (decide (zs.length = n) = true) := (show decide (zs.length = n) = true from decide_eq_true hlen)
    clear hlen
    go_enter Tryz.func38, Tryz.ntmps38
    go_wp2
    go_loopw [13] (fun j wr => ∃ (i : Nat), i ≤ zs.length ∧ j = .int .i64 i ∧ wr = w ∧ rowTo zs n i = true) (fun j _ => zs.length - (intOf j).toNat)
    case atStart => exact ⟨0, by omega, rfl, rfl, rfl⟩
    case round =>
      obtain ⟨i, hi, rfl, hw, hst⟩ := hrel
      subst hw
      by_cases hlt : i < zs.length
      · obtain ⟨b, off, rfl, h0⟩ := HC.out i hlt
        have i0' : (0 : Int) ≤ (i : Int) := by omega
        have i1' : (i : Int) < (zs.length : Int) := by omega
        have q3 := HS.out i hlt
        rw [hst, Bool.true_and] at q3
        have HO : Hid _ := q3
        have HQ : Hid _ := HF.out i hlt
        have KC : Hid _ := nContains_any zs[i] (GRep.take HL.out i (by omega))
        have hic : (i : Int) ≤ (lc : Int) := by omega
        clear q3 hst
        generalize zs[i] = y at *
        generalize (zs.take i).contains y = fo at *
        obtain ⟨vi, hvi⟩ : ∃ r, vIn n y = r := ⟨_, rfl⟩
        rw [hvi] at HO HQ
        cases vi
        · go_wp2_with (go_at_call 76; refine (isBelow_any _ _ _).mono ?_; rintro e w2 ⟨rfl, rfl⟩; rw [hvi])
          go_ret
          exact ⟨by rw [HQ.out (by simp)]; first | done | rfl, rfl⟩
        · cases fo
          · go_wp2_with (first
              | (go_at_call 76; refine (isBelow_any _ _ _).mono ?_; rintro e w2 ⟨rfl, rfl⟩; rw [hvi])
              | (go_at_call 77; refine Calls.mono KC.out ?_; rintro e w3 ⟨rfl, rfl⟩))
            exact ⟨⟨i + 1, by omega, by simp, by simp, HO.out⟩, by simp [intOf]; omega⟩
          · go_wp2_with (first
              | (go_at_call 76; refine (isBelow_any _ _ _).mono ?_; rintro e w2 ⟨rfl, rfl⟩; rw [hvi])
              | (go_at_call 77; refine Calls.mono KC.out ?_; rintro e w3 ⟨rfl, rfl⟩))
            go_ret
            exact ⟨by rw [HQ.out (by simp)]; first | done | rfl, rfl⟩
      · have : i = zs.length := by omega
        subst this
        have HST : Hid _ := hst
        clear hst
        go_wp2
        go_ret
        exact ⟨by rw [HA.out HST.out, HLE.out]; first | done | rfl, rfl⟩
  · have hne : ¬ (zs.length : Int) = (n : Int) := by omega
    have HE' : Hid (res = false) := (show res = false by rw [HE.out, decide_eq_false hlen]; rfl)
    clear hlen
    go_enter Tryz.func38, Tryz.ntmps38
    go_wp2
    go_ret
    exact ⟨by rw [HE'.out]; first | done | rfl, rfl⟩

def hasTo (zs : List Int) (x : Int) (k : Nat) : Bool := (zs.take k).contains x
theorem l14Row_any {v : Value} {zs : List Int} {w : World} (n : Nat) (hL : GRep (Value.int .i64) w v zs) :
    Calls Tryz.prog 34 #[v, .int .i64 n] w fun e w' => e = .returned (.bool (rowB zs n)) ∧ w' = w := by
  obtain ⟨la, lc, rfl, hlc, hcm, hcell⟩ := hL
  have hlm : (zs.length : Int) ≤ 9223372036854775807 := by unfold maxLen at hcm; omega
  have HC : Hid _ := hcell
  have HE : Hid (rowB zs n = (decide (zs.length = n) && (zs.all (fun z => vIn n z) && decide zs.Nodup))) := rfl
  clear hcell
  by_cases hlen : zs.length = n
  · have HF : Hid (∀ k, k < n → zs.contains (k : Int) = false → rowB zs n = false) := (show ∀ k, _ from fun k hk => rowS_false hlen hk)
    have HA : Hid (rowS zs n n = rowB zs n) := rowS_row hlen
    generalize rowB zs n = res at *
    subst hlen
    go_enter Tryz.func34, Tryz.ntmps34
    go_wp2
    go_loopw [5] (fun j wr => ∃ (i : Nat), i ≤ zs.length ∧ j = .int .i64 i ∧ wr = w ∧ rowS zs zs.length i = true) (fun j _ => zs.length - (intOf j).toNat)
    case atStart => exact ⟨0, by omega, rfl, rfl, rfl⟩
    case round =>
      obtain ⟨i, hi, rfl, hw, hst⟩ := hrel
      subst hw
      by_cases hlt : i < zs.length
      · have i0' : (0 : Int) ≤ (i : Int) := by omega
        have i1' : (i : Int) < (zs.length : Int) := by omega
        have q3 := rowS_succ zs zs.length i
        rw [hst, Bool.true_and] at q3
        have HO : Hid _ := q3
        have HQ : Hid _ := HF.out i hlt
        clear q3 hst
        go_wp2_with fail
        go_loopw [6, 7] (fun o j wq => ∃ (k : Nat), k ≤ zs.length ∧ j = .int .i64 k ∧ wq = wr ∧ o = .bool ((zs.take k).contains (i : Int))) (fun _ j _ => zs.length - (intOf j).toNat)
        case atStart => exact ⟨0, by omega, rfl, rfl, by simp⟩
        case round =>
          obtain ⟨k, hk, rfl, hw, rfl⟩ := hrel
          subst hw
          by_cases hkl : k < zs.length
          · obtain ⟨b, off, rfl, h0⟩ := HC.out k hkl
            have k0' : (0 : Int) ≤ (k : Int) := by omega
            have k1' : (k : Int) < (zs.length : Int) := by omega
            have HT : Hid _ := contains_take zs (i : Int) k hkl
            generalize zs[k] = y at *
            generalize (zs.take k).contains (i : Int) = so at *
            cases so
            · go_wp2
              exact ⟨⟨k + 1, by omega, by simp, by simp, by rw [HT.out]; simp [Bool.beq_comm, eq_comm]⟩, by simp [intOf]; omega⟩
            · go_wp2
              exact ⟨⟨k + 1, by omega, by simp, by simp, by rw [HT.out]; rfl⟩, by simp [intOf]; omega⟩
          · have : k = zs.length := by omega
            subst this
            rw [List.take_length]
            generalize zs.contains (i : Int) = fo at *
            cases fo
            · go_wp2
              go_ret
              exact ⟨by rw [HQ.out (by simp)]; first | done | rfl, rfl⟩
            · go_wp2
              exact ⟨⟨i + 1, by omega, by simp, by simp, HO.out⟩, by simp [intOf]; omega⟩
      · have : i = zs.length := by omega
        subst this
        have HST : Hid _ := hst
        clear hst
        go_wp2
        go_ret
        exact ⟨by rw [← HA.out, HST.out]; first | done | rfl, rfl⟩
  · have hne : ¬ (zs.length : Int) = (n : Int) := by omega
    have HE' : Hid (rowB zs n = false) := (show rowB zs n = false by rw [HE.out, decide_eq_false hlen]; rfl)
    generalize rowB zs n = res at *
    clear hlen
    go_enter Tryz.func34, Tryz.ntmps34
    go_wp2
    go_ret
    exact ⟨by rw [HE'.out]; first | done | rfl, rfl⟩

theorem turned_any {v : Value} {zs : List Int} {w : World} (s : Int) (h0 : 0 ≤ s) (h7 : s ≤ 7) (hr : rowB zs 3 = true) (hL : GRep (Value.int .i64) w v zs) :
    Calls Tryz.prog 79 #[.int .i64 s, v] w fun e w' => e = .returned (.int .i64 (turnI s zs)) ∧ w' = w := by
  have hl3 := rowB_len hr
  obtain ⟨la, lc, rfl, hlc, hcm, hcell⟩ := hL
  have hlm : (zs.length : Int) ≤ 9223372036854775807 := by unfold maxLen at hcm; omega
  have HC : Hid _ := hcell
  have HR : Hid _ := hr
  clear hcell hr
  rw [hl3]
  go_enter Tryz.func79, Tryz.ntmps79
  go_wp2
  go_loopw [5, 10] (fun o j wr => ∃ (i : Nat), i ≤ 3 ∧ j = .int .i64 i ∧ wr = w ∧ o = .int .i64 (turnTo s zs i)) (fun _ j _ => 3 - (intOf j).toNat)
  case atStart => exact ⟨0, by omega, rfl, rfl, rfl⟩
  case round =>
    obtain ⟨i, hi, rfl, hw, rfl⟩ := hrel
    subst hw
    by_cases hlt : i < 3
    · obtain ⟨b, off, rfl, c0⟩ := HC.out i (by omega)
      have i0' : (0 : Int) ≤ (i : Int) := by omega
      have i1' : (i : Int) < (3 : Int) := by omega
      obtain ⟨y0, y1⟩ := rowB_in HR.out i (by omega)
      have hg : zs.getD i 0 = zs[i]'(by omega) := by simp [List.getD_eq_getElem?_getD, List.getElem?_eq_getElem (show i < zs.length by omega)]
      have ho := turnTo_or HR.out h0 h7 i hlt
      have hsu := turnTo_succ s zs i
      rw [hg] at ho hsu
      obtain ⟨t0, t1⟩ := turnTo_bd HR.out h0 h7 i (by omega)
      have HSU : Hid _ := hsu
      have HO : Hid _ := ho
      clear hg ho hsu
      generalize zs[i]'(by omega) = y at *
      generalize turnTo s zs i = t at *
      cases hb : hasB s (i : Int)
      · go_wp2_with (go_at_call 102; refine (has_any _ _ _ (by omega) (by omega) (by omega) (by omega)).mono ?_; rintro e w1 ⟨rfl, rfl⟩; rw [hb])
        exact ⟨⟨i + 1, by omega, by simp, by simp, by rw [HSU.out, hb]; simp⟩, by simp [intOf]; omega⟩
      · go_wp2_with (first
          | (go_at_call 102; refine (has_any _ _ _ (by omega) (by omega) (by omega) (by omega)).mono ?_; rintro e w1 ⟨rfl, rfl⟩; rw [hb])
          | (go_at_call 103; refine (with2_any _ _ _ (by omega) (by omega) (by omega) (by omega)).mono ?_; rintro e w1 ⟨rfl, rfl⟩; rw [HO.out]))
        exact ⟨⟨i + 1, by omega, by simp, by simp, by rw [HSU.out, hb]; simp⟩, by simp [intOf]; omega⟩
    · have : i = 3 := by omega
      subst this
      go_wp2
      go_ret
      exact ⟨rfl, rfl⟩

theorem turnR_yes {s : Int} {zs : List Int} (h : inB s = true) (hr : rowB zs 3 = true) : turnR s zs = turnI s zs := by unfold turnR; rw [h, hr]; rfl
theorem turnR_no1 {s : Int} {zs : List Int} (h : inB s = false) : turnR s zs = 0 := by unfold turnR; rw [h]; rfl
theorem turnR_no2 {s : Int} {zs : List Int} (hr : rowB zs 3 = false) : turnR s zs = 0 := by unfold turnR; rw [hr, Bool.and_false]; rfl

theorem sTurnSet_any {v : Value} {zs : List Int} {w : World} (s : Int) (hL : GRep (Value.int .i64) w v zs) :
    Calls Tryz.prog 36 #[.int .i64 s, v] w fun e w' => e = .returned (.int .i64 (turnR s zs)) ∧ w' = w := by
  have KR : Hid (∀ x, x = w → Calls Tryz.prog 34 #[v, .int .i64 3] x fun e w' => e = .returned (.bool (rowB zs 3)) ∧ w' = x) := (show ∀ x, _ from fun x hx => l14Row_any 3 (hx ▸ hL))
  obtain ⟨la, lc, rfl, hlc, hcm, hcell⟩ := hL
  have HC : Hid _ := hcell
  clear hcell
  cases hi : inB s
  · have HZ : Hid (turnR s zs = 0) := turnR_no1 hi
    generalize turnR s zs = res at *
    go_enter Tryz.func36, Tryz.ntmps36
    go_wp2_with fail
    go_loopw [5, 6] (fun o j wr => j = .int .i64 0 ∧ wr = w ∧ o = .int .i64 0) (fun _ j _ => 0)
    case atStart => exact ⟨rfl, rfl, rfl⟩
    case round =>
      obtain ⟨rfl, hw, rfl⟩ := hrel
      subst hw
      go_wp2_with (go_at_call 70; refine (l1Set_any _ _).mono ?_; rintro e w2 ⟨rfl, rfl⟩; rw [hi])
      go_ret
      exact ⟨by rw [HZ.out]; first | done | rfl, rfl⟩
  · cases hr : rowB zs 3
    · have HZ : Hid (turnR s zs = 0) := turnR_no2 hr
      rw [hr] at KR
      generalize turnR s zs = res at *
      go_enter Tryz.func36, Tryz.ntmps36
      go_wp2_with fail
      go_loopw [5, 6] (fun o j wr => j = .int .i64 0 ∧ wr = w ∧ o = .int .i64 0) (fun _ j _ => 0)
      case atStart => exact ⟨rfl, rfl, rfl⟩
      case round =>
        obtain ⟨rfl, hw, rfl⟩ := hrel
        subst hw
        go_wp2_with (first
          | (go_at_call 70; refine (l1Set_any _ _).mono ?_; rintro e w2 ⟨rfl, rfl⟩; rw [hi])
          | (go_at_call 34; refine Calls.mono (KR.out _ rfl) ?_; rintro e w2 ⟨rfl, rfl⟩))
        go_ret
        exact ⟨by rw [HZ.out]; first | done | rfl, rfl⟩
    · have HZ : Hid (turnR s zs = turnTo s zs 3) := turnR_yes hi hr
      have h0 := (inB_iff.1 hi).1
      have h7 := (inB_iff.1 hi).2
      have HR : Hid _ := hr
      have HI : Hid _ := hi
      have hl3 := rowB_len hr
      rw [hr] at KR
      rw [hl3] at KR ⊢
      generalize turnR s zs = res at *
      clear hi hr
      go_enter Tryz.func36, Tryz.ntmps36
      go_wp2_with fail
      go_loopw [5, 6] (fun o j wr => ∃ (i : Nat), i ≤ 3 ∧ j = .int .i64 i ∧ wr = w ∧ o = .int .i64 (turnTo s zs i)) (fun _ j _ => 3 - (intOf j).toNat)
      case atStart => exact ⟨0, by omega, rfl, rfl, rfl⟩
      case round =>
        obtain ⟨i, hi, rfl, hw, rfl⟩ := hrel
        subst hw
        by_cases hlt : i < 3
        · obtain ⟨b, off, rfl, c0⟩ := HC.out i (by omega)
          have i0' : (0 : Int) ≤ (i : Int) := by omega
          have i1' : (i : Int) < (3 : Int) := by omega
          obtain ⟨y0, y1⟩ := rowB_in HR.out i (by omega)
          have hg : zs.getD i 0 = zs[i]'(by omega) := by simp [List.getD_eq_getElem?_getD, List.getElem?_eq_getElem (show i < zs.length by omega)]
          have hsu := turnTo_succ s zs i
          rw [hg] at hsu
          obtain ⟨t0, t1⟩ := turnTo_bd HR.out h0 h7 i (by omega)
          have HSU : Hid _ := hsu
          clear hg hsu
          generalize zs[i]'(by omega) = y at *
          generalize turnTo s zs i = t at *
          have HW : Hid (wrap64 (t + wrap64 (2 ^ y.toNat)) = t + 2 ^ y.toNat) := wrap_shl t y.toNat ⟨t0, t1⟩ (by omega)
          cases hb : hasB s (i : Int)
          · go_wp2_with (first
              | (go_at_call 70; refine (l1Set_any _ _).mono ?_; rintro e w2 ⟨rfl, rfl⟩; rw [HI.out])
              | (go_at_call 34; refine Calls.mono (KR.out _ rfl) ?_; rintro e w2 ⟨rfl, rfl⟩)
              | (go_at_call 59; refine (l1Has_any _ _ _ (by omega) (by omega) (by omega) (by omega)).mono ?_; rintro e w1 ⟨rfl, rfl⟩; rw [hb]))
            exact ⟨⟨i + 1, by omega, by simp, by simp, by rw [HSU.out, hb]; simp⟩, by simp [intOf]; omega⟩
          · go_wp2_with (first
              | (go_at_call 70; refine (l1Set_any _ _).mono ?_; rintro e w2 ⟨rfl, rfl⟩; rw [HI.out])
              | (go_at_call 34; refine Calls.mono (KR.out _ rfl) ?_; rintro e w2 ⟨rfl, rfl⟩)
              | (go_at_call 59; refine (l1Has_any _ _ _ (by omega) (by omega) (by omega) (by omega)).mono ?_; rintro e w1 ⟨rfl, rfl⟩; rw [hb]))
            exact ⟨⟨i + 1, by omega, by simp, by simp, by rw [HSU.out, hb, HW.out]; simp⟩, by simp [intOf]; omega⟩
        · have : i = 3 := by omega
          subst this
          go_wp2
          go_ret
          exact ⟨by rw [HZ.out]; first | done | rfl, rfl⟩

end Go.Proofs.YtkgblkbgebpejaaGreatDoor
