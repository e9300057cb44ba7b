/- What the program says of a program: whether it is ok, and how large. -/
import Derived.Test.YthcgdhlemieboaaGreatTkCsB
import Derived.Test.YthcgdhlemieboaaGreatTkSpx
namespace Go.Proofs.YthcgdhlemieboaaGreat
open Go.RowKit
set_option linter.unusedSimpArgs false
set_option linter.unusedVariables false

theorem notOk_any (k t : Int) (w : World) :
    Calls Tryz.prog 63 #[.agg #[.int .i64 k, .int .i64 t]] w fun e w' => e = .returned (.bool (!okB k t)) ∧ Below w.heap.size w w' := by
  go_enter Tryz.func63, Tryz.ntmps63
  go_wp2_with (first | (go_at_call 64; refine (labelOk_any _ _ _).mono ?_; rintro e w1 ⟨rfl, hb1⟩))
  go_ret
  refine ⟨rfl, ?_⟩
  repeat' (first | exact Below.refl _ _ | assumption | (refine Below.drew ?_) | (refine Below.then ?_ (by assumption) ?_) | (refine Below.alloc ?_ ?_ _) | (refine Below.setCell ?_ ?_ _) | (simp; done) | (simp at *; omega) | omega)

set_option maxHeartbeats 1000000 in
theorem indexFunc_any {lv : Value} {ls : List (Int × Int)} {w : World} (hL : LRep w lv ls) :
    Calls Tryz.prog 82 #[lv, .func (.func 63) #[] #[]] w fun e w' => (∃ z : Int, e = .returned (.int .i64 z) ∧ decide (0 ≤ z) = !labsB ls) ∧ Below w.heap.size w w' := by
  obtain ⟨la, lc, rfl, hlc, hcm, hcell⟩ := hL
  have hlm : (ls.length : Int) ≤ 9223372036854775807 := by unfold maxLen at hcm; omega
  have HC : Hid (∀ i (hi : i < ls.length), ∃ b off k t, ls[i] = (k, t) ∧ la = some ⟨b, off, none⟩ ∧ w.cell? ⟨b, off + i * 2, none⟩ = some (.int .i64 k) ∧ w.cell? ⟨b, off + i * 2 + 1, none⟩ = some (.int .i64 t)) := (show ∀ i (hi : i < ls.length), _ by
    intro i hi
    obtain ⟨b, off, ha, h0, h1⟩ := hcell i hi
    exact ⟨b, off, _, _, rfl, ha, h0, h1⟩)
  clear hcell
  go_enter Tryz.func82, Tryz.ntmps82
  go_wp2
  go_loopw [8] (fun j wr => ∃ (i : Nat), i ≤ ls.length ∧ j = .int .i64 i ∧ Below w.heap.size w wr ∧ labsB (ls.take i) = true) (fun j _ => ls.length - (intOf j).toNat)
  case atStart => exact ⟨0, by omega, rfl, Below.refl _ _, rfl⟩
  case round =>
    obtain ⟨i, hi, rfl, hbr, hst⟩ := hrel
    have hsz : w.heap.size ≤ wr.heap.size := hbr.size
    by_cases hlt : i < ls.length
    · obtain ⟨b, off, k, t, hx, rfl, h0, h1⟩ := HC.out i hlt
      replace h0 := cell_later hbr h0
      replace h1 := cell_later hbr h1
      have i0' : (0 : Int) ≤ (i : Int) := by omega
      have i1' : (i : Int) < (ls.length : Int) := by omega
      have q3 := labs_take ls i hlt
      rw [hx, hst, Bool.true_and] at q3
      dsimp only at q3
      have q5 := labs_take_false ls (i + 1)
      have HQ5 : Hid _ := q5
      have HO : Hid (labsB (ls.take (i + 1)) = okB k t) := q3
      have HI : Hid (0 ≤ (i : Int)) := i0'
      clear q3 q5
      go_wp2_with fail
      go_at_call 63; refine (notOk_any _ _ _).mono ?_; rintro e w1 ⟨rfl, hb1⟩
      have hbr1 : Below w.heap.size w w1 := Below.then hbr hb1 hsz
      clear h0 h1 hbr hb1
      generalize okB k t = res at *
      cases res
      · go_wp2
        go_ret
        exact ⟨⟨i, rfl, by rw [HQ5.out HO.out]; simp⟩, hbr1⟩
      · go_wp2
        exact ⟨⟨i + 1, by omega, by simp, hbr1, HO.out⟩, by simp [intOf]; omega⟩
    · have : i = ls.length := by omega
      subst this
      rw [List.take_length] at hst
      have HST : Hid _ := hst
      clear hst
      go_wp2
      go_ret
      exact ⟨⟨-1, rfl, by rw [HST.out]; rfl⟩, hbr⟩

theorem containsFunc_any {lv : Value} {ls : List (Int × Int)} {w : World} (hL : LRep w lv ls) :
    Calls Tryz.prog 65 #[lv, .func (.func 63) #[] #[]] w fun e w' => e = .returned (.bool (!labsB ls)) ∧ Below w.heap.size w w' := by
  have C1 : Hid _ := indexFunc_any hL
  obtain ⟨la, lc, rfl, -⟩ := hL
  go_enter Tryz.func65, Tryz.ntmps65
  go_wp2_with fail
  go_at_call 82; refine Calls.mono C1.out ?_; rintro e w1 ⟨⟨z, rfl, hz⟩, hb1⟩
  have HZ : Hid _ := hz
  clear hz
  go_wp2
  go_ret
  exact ⟨by rw [← HZ.out]; rfl, hb1⟩

set_option maxHeartbeats 1000000 in
theorem counted_any {d : Nat} {T : Tr d} {lv sv : Value} {ls : List (Int × Int)} {w : World} (hL : LRep w lv ls) (hR : Rep w d sv T) :
    Calls Tryz.prog 45 #[.agg #[lv, sv]] w fun e w' => Below w.heap.size w w' ∧
      ((progB ls d T = true ∧ ∃ v' xs', e = .returned (.tuple #[v', .bool true]) ∧ w'.ownsRow w.heap.size 66 8 v' (cnt d T) xs' ∧ FlatR w (flat d T) xs') ∨
        (progB ls d T = false ∧ e = .returned (.tuple #[.slice none 0 0, .bool false]))) := by
  have A : Below w.heap.size w (w.alloc (.cells #[lv, sv] 26)) := (Below.refl _ _).alloc (Nat.le_refl _) _
  have L1 := hL.below A
  have C1 : Hid _ := containsFunc_any L1
  obtain ⟨la, lc, rfl, hlc, hcm, -⟩ := hL
  obtain ⟨sa, sc, rfl⟩ := hR.slice
  have hlm : (ls.length : Int) ≤ 9223372036854775807 := by unfold maxLen at hcm; omega
  clear L1
  by_cases h4 : 4 < (ls.length : Int)
  · have hpr : progB ls d T = false := by
      have : ¬ ls.length ≤ 4 := by omega
      simp [progB, this]
    have HP : Hid _ := hpr
    clear hpr
    go_enter Tryz.func45, Tryz.ntmps45
    go_wp2
    refine bodyPost_ret (v := .tuple #[.slice none 0 0, .bool false]) (by simp [results, Tryz.results45, go_sem]) rfl ⟨A, .inr ⟨HP.out, rfl⟩⟩
  have hP : progB ls d T = (labsB ls && (stB ls.length d 3 T && decide (cnt d T ≤ 8))) := by
    have : ls.length ≤ 4 := by omega
    simp [progB, this]
  have HP : Hid _ := hP
  have HR : Hid (Rep w d (.slice sa (ln d T) sc) T) := hR
  clear hP hR
  have hd4 : decide (4 < (ls.length : Int)) = false := by simpa using h4
  go_enter Tryz.func45, Tryz.ntmps45
  go_wp2_with fail
  go_at_call 65; refine Calls.mono C1.out ?_; rintro e w1 ⟨rfl, hb1⟩
  have p0 : w1.cell? ⟨w.heap.size, 0, none⟩ = some (.slice la ls.length lc) := cell_later hb1 (by simp)
  have p1 : w1.cell? ⟨w.heap.size, 1, none⟩ = some (.slice sa (ln d T) sc) := cell_later hb1 (by simp)
  have B1 : Below w.heap.size w w1 := Below.then A hb1 (by simp)
  clear hb1 C1 A
  cases hl : labsB ls
  · go_wp2
    refine bodyPost_ret (v := .tuple #[.slice none 0 0, .bool false]) (by simp [results, Tryz.results45, go_sem]) rfl ⟨B1, .inr ⟨HP.out.trans (by rw [hl]; rfl), rfl⟩⟩
  · have C2 : Hid _ := cs_any w ls.length d T (.slice sa (ln d T) sc) 1 (.slice none 0 0) 0 [] w1 HR.out B1 (World.ownsRow_nil _ _ _ _) (by omega) (by omega) (by omega)
    go_wp2_with fail
    go_at_call 66; refine Calls.mono C2.out ?_
    rintro e w2 ⟨⟨B2, _⟩, ⟨ok, v', xs', rfl, _, own, fl⟩ | ⟨no, rfl⟩⟩
    · have HOK : Hid _ := ok
      have HOW : Hid _ := own
      have HFL : Hid _ := fl
      clear ok own fl
      go_wp2
      refine bodyPost_ret (v := .tuple #[v', .bool true]) (by simp [results, Tryz.results45, go_sem]) rfl ⟨B2, .inl ⟨HP.out.trans (by rw [hl]; simpa using HOK.out), v', xs', rfl, ?_, HFL.out⟩⟩
      have ow : World.ownsRow w2 w.heap.size 66 8 v' (0 + cnt d T) ([] ++ xs') := HOW.out
      rw [Nat.zero_add, List.nil_append] at ow
      exact ow
    · have HNO : Hid _ := no
      clear no
      go_wp2
      refine bodyPost_ret (v := .tuple #[.slice none 0 0, .bool false]) (by simp [results, Tryz.results45, go_sem]) rfl ⟨B2, .inr ⟨HP.out.trans (by rw [hl]; simpa using HNO.out), rfl⟩⟩

theorem progOk_any {d : Nat} {T : Tr d} {lv sv : Value} {ls : List (Int × Int)} {w : World} (hL : LRep w lv ls) (hR : Rep w d sv T) :
    Calls Tryz.prog 17 #[.agg #[lv, sv]] w fun e w' => e = .returned (.bool (progB ls d T)) ∧ Below w.heap.size w w' := by
  have A : Below w.heap.size w (w.alloc (.cells #[lv, sv] 26)) := (Below.refl _ _).alloc (Nat.le_refl _) _
  have C1 : Hid _ := counted_any (hL.below A) (hR.below A)
  obtain ⟨la, lc, rfl, -⟩ := hL
  obtain ⟨sa, sc, rfl⟩ := hR.slice
  clear hR
  go_enter Tryz.func17, Tryz.ntmps17
  go_wp2_with fail
  go_at_call 45; refine Calls.mono C1.out ?_
  rintro e w1 ⟨hb1, ⟨ok, v', xs', rfl, _, _⟩ | ⟨no, rfl⟩⟩
  · have B1 : Below w.heap.size w w1 := Below.then A hb1 (by simp)
    have HO : Hid _ := ok
    clear ok hb1 A
    go_wp2
    go_ret
    exact ⟨by rw [HO.out]; rfl, B1⟩
  · have B1 : Below w.heap.size w w1 := Below.then A hb1 (by simp)
    have HO : Hid _ := no
    clear no hb1 A
    go_wp2
    go_ret
    exact ⟨by rw [HO.out]; rfl, B1⟩

end Go.Proofs.YthcgdhlemieboaaGreat
