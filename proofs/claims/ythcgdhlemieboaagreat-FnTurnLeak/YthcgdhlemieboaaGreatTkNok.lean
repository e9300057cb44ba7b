/- Numbers of a program's variables. -/
import Derived.Test.YthcgdhlemieboaaGreatTkRwx
import Derived.Test.YthcgdhlemieboaaGreatTkImp
namespace Go.Proofs.YthcgdhlemieboaaGreat
open Go.RowKit
set_option linter.unusedSimpArgs false
set_option linter.unusedVariables false
attribute [local go_sem] World.cell?_alloc_some

def tenB (zs : List Int) : Bool := zs.all fun z => vIn 10 z
def numsB (ls : List (Int × Int)) (d : Nat) (T : Tr d) (zs : List Int) : Bool := progB ls d T && (decide (zs.length = ls.length) && tenB zs)
theorem ten_take (zs : List Int) (i : Nat) (hi : i < zs.length) : tenB (zs.take (i + 1)) = (tenB (zs.take i) && vIn 10 zs[i]) := by
  unfold tenB; rw [List.take_succ_eq_append_getElem hi, List.all_append]; simp
theorem ten_false (zs : List Int) (i : Nat) (h : tenB (zs.take i) = false) : tenB zs = false := by
  have e : tenB zs = (tenB (zs.take i) && tenB (zs.drop i)) := by
    unfold tenB; rw [← List.all_append, List.take_append_drop]
  rw [e, h]; rfl

theorem notTen_any (x : Int) (w : World) :
    Calls Tryz.prog 84 #[.int .i64 x] w fun e w' => e = .returned (.bool (!vIn 10 x)) ∧ w' = w := by
  go_enter Tryz.func84, Tryz.ntmps84
  go_wp2_with (go_at_call 18; refine (isBelow_any _ _ _).mono ?_; rintro e w2 ⟨rfl, rfl⟩)
  go_ret
  exact ⟨rfl, rfl⟩

theorem nIndexFunc_any {v : Value} {zs : List Int} {w : World} (hL : GRep (Value.int .i64) w v zs) :
    Calls Tryz.prog 94 #[v, .func (.func 84) #[] #[]] w fun e w' => (∃ z : Int, e = .returned (.int .i64 z) ∧ decide (0 ≤ z) = !tenB zs) ∧ Below w.heap.size w w' := by
  obtain ⟨la, lc, rfl, hlc, hcm, hcell⟩ := hL
  have hlm : (zs.length : Int) ≤ 9223372036854775807 := by unfold maxLen at hcm; omega
  have HC : Hid _ := hcell
  clear hcell
  go_enter Tryz.func94, Tryz.ntmps94
  go_wp2
  go_loopw [8] (fun j wr => ∃ (i : Nat), i ≤ zs.length ∧ j = .int .i64 i ∧ Below w.heap.size w wr ∧ tenB (zs.take i) = true) (fun j _ => zs.length - (intOf j).toNat)
  case atStart => exact ⟨0, by omega, rfl, Below.refl _ _, rfl⟩
  case round =>
    obtain ⟨i, hi, rfl, hbr, hst⟩ := hrel
    by_cases hlt : i < zs.length
    · obtain ⟨b, off, rfl, h0⟩ := HC.out i hlt
      replace h0 := cell_later hbr h0
      have i0' : (0 : Int) ≤ (i : Int) := by omega
      have i1' : (i : Int) < (zs.length : Int) := by omega
      have q3 := ten_take zs i hlt
      rw [hst, Bool.true_and] at q3
      have HO : Hid (tenB (zs.take (i + 1)) = vIn 10 zs[i]) := q3
      have HQ5 : Hid _ := ten_false zs (i + 1)
      have HB : Hid (Below w.heap.size w wr) := hbr
      clear q3 hbr hst
      generalize zs[i] = x at *
      go_wp2_with fail
      go_at_call 84; refine (notTen_any _ _).mono ?_; rintro e w1 ⟨rfl, hw1⟩
      rw [hw1]
      clear h0 hw1 w1
      generalize vIn 10 x = res at *
      cases res
      · go_wp2
        go_ret
        exact ⟨⟨i, rfl, by rw [HQ5.out HO.out]; simp⟩, HB.out⟩
      · go_wp2
        exact ⟨⟨i + 1, by omega, by simp, HB.out, HO.out⟩, by simp [intOf]; omega⟩
    · have : i = zs.length := by omega
      subst this
      rw [List.take_length] at hst
      have HST : Hid _ := hst
      have HB : Hid (Below w.heap.size w wr) := hbr
      clear hst hbr
      go_wp2
      go_ret
      exact ⟨⟨-1, rfl, by rw [HST.out]; rfl⟩, HB.out⟩

theorem nContainsFunc_any {v : Value} {zs : List Int} {w : World} (hL : GRep (Value.int .i64) w v zs) :
    Calls Tryz.prog 85 #[v, .func (.func 84) #[] #[]] w fun e w' => e = .returned (.bool (!tenB zs)) ∧ Below w.heap.size w w' := by
  have C1 : Hid _ := nIndexFunc_any hL
  obtain ⟨la, lc, rfl, -⟩ := hL
  go_enter Tryz.func85, Tryz.ntmps85
  go_wp2_with fail
  go_at_call 94; refine Calls.mono C1.out ?_; rintro e w1 ⟨⟨z, rfl, hz⟩, hb1⟩
  have HZ : Hid _ := hz
  clear hz
  go_wp2
  go_ret
  exact ⟨by rw [← HZ.out]; rfl, hb1⟩

set_option maxHeartbeats 2000000 in
theorem numsOk_any {d : Nat} {T : Tr d} {lv sv nv : Value} {ls : List (Int × Int)} {zs : List Int} {w : World} (hL : LRep w lv ls) (hR : Rep w d sv T) (hN : GRep (Value.int .i64) w nv zs) :
    Calls Tryz.prog 70 #[.agg #[lv, sv], nv] w fun e w' => e = .returned (.bool (numsB ls d T zs)) ∧ Below w.heap.size w w' := by
  have A : Below w.heap.size w (w.alloc (.cells #[lv, sv] 26)) := (Below.refl _ _).alloc (Nat.le_refl _) _
  have C1 : Hid _ := progOk_any (hL.below A) (hR.below A)
  have C2 : Hid (∀ w', Below w.heap.size w w' → Calls Tryz.prog 85 #[nv, .func (.func 84) #[] #[]] w' fun e w'' => e = .returned (.bool (!tenB zs)) ∧ Below w'.heap.size w' w'') := (show ∀ w', _ from fun w' hb => nContainsFunc_any (hN.below hb))
  obtain ⟨la, lc, rfl, hll, hlm, -⟩ := hL
  obtain ⟨sa, sc, rfl⟩ := hR.slice
  obtain ⟨na, nc, rfl, hnl, hnm, -⟩ := hN
  clear hR
  have HE : Hid (numsB ls d T zs = (progB ls d T && (decide (zs.length = ls.length) && tenB zs))) := rfl
  generalize numsB ls d T zs = res at HE ⊢
  generalize progB ls d T = pb at C1 HE
  go_enter Tryz.func70, Tryz.ntmps70
  go_wp2_with fail
  go_at_call 17; refine Calls.mono C1.out ?_; rintro e w1 ⟨rfl, hb1⟩
  have B1 : Below w.heap.size w w1 := Below.then A hb1 (by simp)
  have x0 : w1.cell? ⟨w.heap.size, 0, none⟩ = some (.slice la ls.length lc) := cell_later hb1 (by go_simp)
  clear hb1 A C1
  cases pb
  · go_wp2
    go_ret
    exact ⟨by rw [HE.out]; rfl, B1⟩
  by_cases hlen : zs.length = ls.length
  · have hlen' : (zs.length : Int) = (ls.length : Int) := by omega
    have HL : Hid (decide (zs.length = ls.length) = true) := (show decide (zs.length = ls.length) = true from decide_eq_true hlen)
    have HB : Hid _ := B1
    clear hlen
    go_wp2_with fail
    go_at_call 85; refine (C2.out _ HB.out).mono ?_; rintro e w2 ⟨rfl, hb2⟩
    have B2 : Below w.heap.size w w2 := Below.then HB.out hb2 HB.out.size
    clear hb2 x0
    have HE' : Hid (res = tenB zs) := (show res = tenB zs by rw [HE.out, HL.out]; simp)
    generalize tenB zs = tb at *
    go_wp2
    go_ret
    exact ⟨by rw [HE'.out]; simp, B2⟩
  · have hne : ¬ (zs.length : Int) = (ls.length : Int) := by omega
    have HE' : Hid (res = false) := (show res = false by rw [HE.out, decide_eq_false hlen]; rfl)
    have HB : Hid _ := B1
    clear hlen B1
    go_wp2
    go_ret
    exact ⟨by rw [HE'.out]; rfl, HB.out⟩

set_option maxHeartbeats 2000000 in
theorem sNumsOk_any {d : Nat} {T : Tr d} {lv sv nv : Value} {ls : List (Int × Int)} {zs : List Int} {w : World} (hL : LRep w lv ls) (hR : Rep w d sv T) (hcn : cnt d T ≤ 1048576) (hN : GRep (Value.int .i64) w nv zs) :
    Calls Tryz.prog 61 #[.agg #[lv, sv], nv] w fun e w' => e = .returned (.bool (numsB ls d T zs)) ∧ Below w.heap.size w w' := by
  have A : Below w.heap.size w (w.alloc (.cells #[lv, sv] 26)) := (Below.refl _ _).alloc (Nat.le_refl _) _
  have C1 : Hid _ := sProgOk_any (hL.below A) (hR.below A) hcn
  have HN : Hid (∀ w', Below w.heap.size w w' → GRep (Value.int .i64) w' nv zs) := (show ∀ w', _ from fun w' hb => hN.below hb)
  obtain ⟨la, lc, rfl, hll, hlm, -⟩ := hL
  obtain ⟨sa, sc, rfl⟩ := hR.slice
  obtain ⟨na, nc, rfl, hnl, hnm, -⟩ := hN
  have hnm' : (zs.length : Int) ≤ 9223372036854775807 := by unfold maxLen at hnm; omega
  clear hR
  have HE : Hid (numsB ls d T zs = (progB ls d T && (decide (zs.length = ls.length) && tenB zs))) := rfl
  generalize numsB ls d T zs = res at HE ⊢
  generalize progB ls d T = pb at C1 HE
  go_enter Tryz.func61, Tryz.ntmps61
  go_wp2_with fail
  go_at_call 13; refine Calls.mono C1.out ?_; rintro e w1 ⟨rfl, hb1⟩
  have B1 : Below w.heap.size w w1 := Below.then A hb1 (by simp)
  have x0 : w1.cell? ⟨w.heap.size, 0, none⟩ = some (.slice la ls.length lc) := cell_later hb1 (by go_simp)
  clear hb1 A C1
  cases pb
  · go_wp2
    go_ret
    exact ⟨by rw [HE.out]; rfl, B1⟩
  by_cases hlen : zs.length = ls.length
  · have hlen' : (zs.length : Int) = (ls.length : Int) := by omega
    have HE' : Hid (res = tenB zs) := (show res = tenB zs by rw [HE.out, decide_eq_true hlen]; simp)
    have HB : Hid _ := B1
    have s1 : w.heap.size ≤ w1.heap.size := B1.size
    clear hlen B1 HE
    go_wp2
    go_loopw [5] (fun j wr => ∃ (i : Nat), i ≤ zs.length ∧ j = .int .i64 i ∧ Below w1.heap.size w1 wr ∧ tenB (zs.take i) = true) (fun j _ => zs.length - (intOf j).toNat)
    case atStart => exact ⟨0, by omega, rfl, Below.refl _ _, rfl⟩
    case round =>
      obtain ⟨i, hi, rfl, hbr, hst⟩ := hrel
      have BR : Hid (Below w.heap.size w wr) := Below.then HB.out hbr s1
      by_cases hlt : i < zs.length
      · obtain ⟨-, -, -, -, -, hcell⟩ := HN.out wr BR.out
        obtain ⟨la2, c2, hsl, -, -, hcell⟩ := HN.out wr BR.out
        cases hsl
        obtain ⟨b, off, rfl, h0⟩ := hcell i hlt
        have i0' : (0 : Int) ≤ (i : Int) := by omega
        have i1' : (i : Int) < (zs.length : Int) := by omega
        have q3 := ten_take zs i hlt
        rw [hst, Bool.true_and] at q3
        have HO : Hid (tenB (zs.take (i + 1)) = vIn 10 zs[i]) := q3
        have HQ5 : Hid _ := ten_false zs (i + 1)
        have HBR : Hid (Below w1.heap.size w1 wr) := hbr
        clear q3 hbr hst hcell
        generalize zs[i] = x at *
        have hin : (decide (0 ≤ x) && decide (x ≤ 9)) = vIn 10 x := by unfold vIn; congr 1; exact decide_eq_decide.2 (by omega)
        have HIN : Hid _ := hin
        clear hin
        go_wp2_with fail
        go_at_call 14; refine (l6In_any _ _ _ _).mono ?_; rintro e w2 ⟨rfl, hw2⟩
        rw [hw2, HIN.out]
        clear h0 hw2 w2
        generalize vIn 10 x = rb at *
        cases rb
        · go_wp2
          go_ret
          exact ⟨by rw [HE'.out, HQ5.out HO.out]; rfl, BR.out⟩
        · go_wp2
          exact ⟨⟨i + 1, by omega, by simp, HBR.out, HO.out⟩, by simp [intOf]; omega⟩
      · have : i = zs.length := by omega
        subst this
        rw [List.take_length] at hst
        have HST : Hid _ := hst
        clear hst hbr
        go_wp2
        go_ret
        exact ⟨by rw [HE'.out, HST.out]; rfl, BR.out⟩
  · have hne : ¬ (zs.length : Int) = (ls.length : Int) := by omega
    have HE' : Hid (res = false) := (show res = false by rw [HE.out, decide_eq_false hlen]; rfl)
    have HB : Hid _ := B1
    clear hlen B1
    go_wp2
    go_ret
    exact ⟨by rw [HE'.out]; rfl, HB.out⟩

end Go.Proofs.YthcgdhlemieboaaGreat
