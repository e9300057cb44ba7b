/- A program's first steps are one, and so is the rest: walked, once it is known what is drawn. -/
import Derived.Test.YtpcmhkcahajdgaaImp
import Derived.Test.YtpcmhkcahajdgaaWExO
namespace Go.Proofs.Ytpcmhkcahajdgaa
open Go.RowKit
set_option linter.unusedSimpArgs false
set_option linter.unusedVariables false
attribute [local go_sem ↓] Go.wp_at_zero Go.wp_at_succ
attribute [local go_sem] World.cell?_alloc_some

theorem cnt_app {d : Nat} (a b : List (Pay × Tr d × Tr d)) : cnt (d + 1) (a ++ b : List (Pay × Tr d × Tr d)) = cnt (d + 1) (a : List (Pay × Tr d × Tr d)) + cnt (d + 1) (b : List (Pay × Tr d × Tr d)) := by
  show ((a ++ b).map _).sum = (a.map _).sum + (b.map _).sum
  simp
theorem stB_app {n : Int} {d : Nat} {deep : Int} (a b : List (Pay × Tr d × Tr d)) : stB n (d + 1) deep (a ++ b : List (Pay × Tr d × Tr d)) = (stB n (d + 1) deep (a : List (Pay × Tr d × Tr d)) && stB n (d + 1) deep (b : List (Pay × Tr d × Tr d))) := by
  show List.all (a ++ b) _ = (List.all a _ && List.all b _)
  rw [List.all_append]
theorem progB_cut {ls : List (Int × Int)} {d : Nat} {l : List (Pay × Tr d × Tr d)} (h : progB ls (d + 1) (l : List (Pay × Tr d × Tr d)) = true) (k : Nat) : progB ls (d + 1) (l.take k : List (Pay × Tr d × Tr d)) = true ∧ progB ls (d + 1) (l.drop k : List (Pay × Tr d × Tr d)) = true := by
  have e := List.take_append_drop k l
  rw [← e] at h
  unfold progB at *
  rw [stB_app, cnt_app] at h
  simp only [Bool.and_eq_true, decide_eq_true_eq] at *
  obtain ⟨h1, h2, ⟨h3, h4⟩, h5⟩ := h
  exact ⟨⟨h1, h2, h3, by omega⟩, h1, h2, h4, by omega⟩
theorem rep_take {w : World} {d : Nat} {a : Option Addr} {c : Nat} {l : List (Pay × Tr d × Tr d)} (h : Rep w (d + 1) (.slice a l.length c) (l : List (Pay × Tr d × Tr d))) (k : Nat) (hk : k ≤ l.length) : Rep w (d + 1) (.slice a k c) (l.take k : List (Pay × Tr d × Tr d)) := by
  obtain ⟨a', c', hs, hlc, hcm, hr⟩ := h
  simp only [Value.slice.injEq] at hs
  obtain ⟨rfl, -, rfl⟩ := hs
  refine ⟨a, c, by rw [List.length_take, Nat.min_eq_left hk], by rw [List.length_take]; omega, hcm, fun i hi => ?_⟩
  have hi' : i < l.length := by rw [List.length_take] at hi; omega
  obtain ⟨b, off, t, e, ha, hS, r1, r2⟩ := hr i hi'
  rw [List.getElem_take]
  exact ⟨b, off, t, e, ha, hS, r1, r2⟩
theorem rep_drop {w : World} {d : Nat} {b off c : Nat} {l : List (Pay × Tr d × Tr d)} (h : Rep w (d + 1) (.slice (some ⟨b, off, none⟩) l.length c) (l : List (Pay × Tr d × Tr d))) (k : Nat) (hk : k ≤ l.length) : Rep w (d + 1) (.slice (some ⟨b, off + k * 8, none⟩) (l.length - k) (c - k)) (l.drop k : List (Pay × Tr d × Tr d)) := by
  obtain ⟨a', c', hs, hlc, hcm, hr⟩ := h
  simp only [Value.slice.injEq] at hs
  obtain ⟨rfl, -, rfl⟩ := hs
  refine ⟨_, _, by rw [List.length_drop], by rw [List.length_drop]; omega, by omega, fun i hi => ?_⟩
  rw [List.length_drop] at hi
  obtain ⟨b', off', t, e, ha, hS, r1, r2⟩ := hr (k + i) (by omega)
  simp only [Option.some.injEq, Addr.mk.injEq] at ha
  obtain ⟨rfl, rfl, -⟩ := ha
  rw [List.getElem_drop]
  refine ⟨b, off + k * 8, t, e, rfl, ?_, r1, r2⟩
  rw [show off + k * 8 + i * 8 = off + (k + i) * 8 by rw [Nat.add_mul]; omega]
  exact hS

theorem tmod_nat2 (x y : Nat) : ((x : Int).tmod (y : Int)) = ((x % y : Nat) : Int) := by
  rw [Int.tmod_eq_emod_of_nonneg (by omega)]; rfl
theorem SF1 {B : Nat} {w wz : World} {a1 a2 : Addr} {v1 v2 : Value} (h : (wz.cell? a1 = some v1 ∧ wz.cell? a2 = some v2) ∧ Below B w wz) : (wz.drew.cell? a1 = some v1 ∧ wz.drew.cell? a2 = some v2) ∧ Below B w wz.drew := ⟨h.1, h.2.drew⟩
theorem SF2 {w wz wx : World} {a1 a2 : Addr} {v1 v2 : Value} (h : (wz.cell? a1 = some v1 ∧ wz.cell? a2 = some v2) ∧ Below w.heap.size w wz) (hb : Below wz.heap.size wz wx) : (wx.cell? a1 = some v1 ∧ wx.cell? a2 = some v2) ∧ Below w.heap.size w wx :=
  ⟨⟨cell_later hb h.1.1, cell_later hb h.1.2⟩, Below.then h.2 hb h.2.size⟩
/-- What is drawn for P9: a program, whatever it is. -/
def DrawsOk (a0 : Option Addr) (len0 cap0 : Nat) (w : World) : Prop := Calls Try.prog 19 #[.slice a0 len0 cap0] w fun e w' => ∃ (lv sv : Value) (ls : List (Int × Int)) (d : Nat) (l : List (Pay × Tr d × Tr d)), e = .returned (.agg #[lv, sv]) ∧ LRep w' lv ls ∧ Rep w' (d + 1) sv (l : List (Pay × Tr d × Tr d)) ∧ cnt (d + 1) (l : List (Pay × Tr d × Tr d)) ≤ 1048576 ∧ Below w.heap.size w w'

set_option maxHeartbeats 8000000 in
set_option maxRecDepth 20000 in
theorem fnProgLess_of (a0 : Option Addr) (len0 cap0 : Nat) (a1 : Option Addr) (len1 cap1 : Nat) (w : World) (hD : DrawsOk a0 len0 cap0 w) :
    Calls Try.prog 3 #[.slice a0 len0 cap0, .slice a1 len1 cap1] w fun e w' => e = .returned (.bool true) ∧ Below w.heap.size w w' := by
  by_cases hl : (1048576 : Int) < (len0 : Int)
  · go_enter Try.func3, Try.ntmps3
    go_wp2
    go_ret
    exact ⟨rfl, Below.refl _ _⟩
  have hd0 : decide ((1048576 : Int) < (len0 : Int)) = false := by simpa using hl
  by_cases hl1 : (1048576 : Int) < (len1 : Int)
  · go_enter Try.func3, Try.ntmps3
    go_wp2
    go_ret
    exact ⟨rfl, Below.refl _ _⟩
  have HD : Hid _ := hD
  clear hD
  go_enter Try.func3, Try.ntmps3
  go_wp2_with fail
  go_at_call 19; refine Calls.mono HD.out ?_
  rintro e w1 ⟨lv, sv, ls, d, l, rfl, hL, hR, hcn, hb1⟩
  have hll := ln_le_cnt (d + 1) (l : List (Pay × Tr d × Tr d))
  have hll' : l.length ≤ cnt (d + 1) (l : List (Pay × Tr d × Tr d)) := hll
  obtain ⟨la, lc, rfl, -⟩ := id hL
  obtain ⟨sa, sc, rfl, hlc, hcm, hcell⟩ := id hR
  have A1 : Below w1.heap.size w1 (w1.alloc (.cells #[.slice la ls.length lc, .slice sa l.length sc] 26)) := (Below.refl _ _).alloc (Nat.le_refl _) _
  have C1 : Hid _ := progOk_any (hL.below A1) (hR.below A1)
  have HL : Hid (∀ w', Below w1.heap.size w1 w' → LRep w' (.slice la ls.length lc) ls) := (show ∀ w', _ from fun w' hb => hL.below hb)
  have HR : Hid (∀ w', Below w1.heap.size w1 w' → Rep w' (d + 1) (.slice sa l.length sc) (l : List (Pay × Tr d × Tr d))) := (show ∀ w', _ from fun w' hb => hR.below hb)
  have HB1 : Hid (Below w.heap.size w w1) := hb1
  have HC : Hid _ := hcell
  clear hL hR HD hb1 hcell hll
  go_wp2_with fail
  go_at_call 20; refine Calls.mono C1.out ?_
  rintro e w2 ⟨rfl, hb2⟩
  have B2 : Below w1.heap.size w1 w2 := Below.then A1 hb2 (by simp)
  have x0 : w2.cell? ⟨w1.heap.size, 0, none⟩ = some (.slice la ls.length lc) := cell_later hb2 (by go_simp)
  have x1 : w2.cell? ⟨w1.heap.size, 1, none⟩ = some (.slice sa l.length sc) := cell_later hb2 (by go_simp)
  have C2 : Hid _ := sProgOk_any (HL.out w2 B2) (HR.out w2 B2) hcn
  clear hb2 A1 C1
  obtain ⟨ok, hok⟩ : ∃ b, progB ls (d + 1) (l : List (Pay × Tr d × Tr d)) = b := ⟨_, rfl⟩
  have HOK : Hid _ := hok
  rw [hok]
  clear hok
  go_wp2_with fail
  go_at_call 21; refine Calls.mono C2.out ?_
  rintro e w3 ⟨rfl, hb3⟩
  rw [HOK.out]
  have B3 : Below w1.heap.size w1 w3 := Below.then B2 hb3 B2.size
  replace x0 := cell_later hb3 x0
  replace x1 := cell_later hb3 x1
  clear hb3 C2 B2
  cases ok
  · have C3 : Hid _ := sProgOk_any (HL.out w3 B3) (HR.out w3 B3) hcn
    go_wp2_with fail
    go_at_call 21; refine Calls.mono C3.out ?_
    rintro e w4 ⟨rfl, hb4⟩
    rw [HOK.out]
    have B4 : Below w.heap.size w w4 := Below.then HB1.out (Below.then B3 hb4 B3.size) HB1.out.size
    clear hb4 C3 B3 x0 x1
    go_wp2
    go_ret
    exact ⟨rfl, B4⟩
  have hw1 := w64 ((l.length : Int) + 1) (by omega)
  have hmod : (len1 : Int).tmod ((l.length : Int) + 1) = ((len1 % (l.length + 1) : Nat) : Int) := tmod_nat2 len1 (l.length + 1)
  have hcut : len1 % (l.length + 1) ≤ l.length := by have := Nat.mod_lt len1 (show 0 < l.length + 1 by omega); omega
  obtain ⟨cut, hcute⟩ : ∃ c, len1 % (l.length + 1) = c := ⟨_, rfl⟩
  rw [hcute] at hmod hcut
  clear hcute
  have hnz : ¬ (l.length : Int) + 1 = 0 := by omega
  have hwm := w64 (cut : Int) (by omega)
  rcases Nat.eq_zero_or_pos l.length with hz | hpos
  case inr =>
    obtain ⟨b, off, _, _, rfl, -⟩ := HC.out 0 hpos
    have hPB := progB_cut HOK.out cut
    have CA : Hid (∀ wx, Below w3.heap.size w3 wx → Calls Try.prog 20 #[.agg #[.slice la ls.length lc, .slice (some ⟨b, off, none⟩) cut sc]] wx fun e w' => e = .returned (.bool true) ∧ Below wx.heap.size wx w') := (show ∀ wx, _ from fun wx hb => by
      have hb' := Below.then B3 hb B3.size
      have := progOk_any (HL.out wx hb') (rep_take (HR.out wx hb') cut hcut)
      rwa [hPB.1] at this)
    have c0 : (0 : Int) ≤ (cut : Int) := by omega
    have c1 : (cut : Int) ≤ (sc : Int) := by omega
    have c2 : (cut : Int) ≤ (l.length : Int) := by omega
    obtain ⟨X, hX⟩ : ∃ X : Addr, X = if sc = cut then ⟨b, off, none⟩ else ⟨b, off + cut * 8, none⟩ := ⟨_, rfl⟩
    have CB : Hid (∀ wx, Below w3.heap.size w3 wx → Calls Try.prog 20 #[.agg #[.slice la ls.length lc, .slice (some X) (l.length - cut) (sc - cut)]] wx fun e w' => e = .returned (.bool true) ∧ Below wx.heap.size wx w') := (show ∀ wx, _ from fun wx hb => by
      have hb' := Below.then B3 hb B3.size
      have hRD : Rep wx (d + 1) (.slice (some X) (l.length - cut) (sc - cut)) (l.drop cut : List (Pay × Tr d × Tr d)) := by
        rw [hX]
        by_cases hsc : sc = cut
        · rw [if_pos hsc]
          have hlen : l.length = cut := by omega
          have hdr : (l.drop cut : List (Pay × Tr d × Tr d)) = [] := by rw [← hlen]; simp
          rw [hdr, show l.length - cut = 0 by omega, show sc - cut = 0 by omega]
          exact ⟨_, _, rfl, Nat.le_refl _, by unfold maxLen; omega, fun i hi => by simp at hi⟩
        · rw [if_neg hsc]
          exact rep_drop (HR.out wx hb') cut hcut
      have := progOk_any (HL.out wx hb') hRD
      rwa [hPB.2] at this)
    have HX : Hid _ := hX
    clear hX
    go_wp2_with fail
    refine wp_region_held (S := (fun wz => (wz.cell? ⟨w1.heap.size, 0, none⟩ = some (.slice la ls.length lc) ∧ wz.cell? ⟨w1.heap.size, 1, none⟩ = some (.slice (some ⟨b, off, none⟩) l.length sc)) ∧ Below w3.heap.size w3 wz)) (by kernel_rfl) ?_
    change wpAnyH _ _ _ _ _ _ _ _ (World.drew _)
    have hHeld := SF1 ⟨⟨x0, x1⟩, Below.refl w3.heap.size w3⟩
    refine' wpAnyH_take (i := 0) (v := _) rfl (by kernel_rfl) (by kernel_rfl) (by kernel_rfl) (fun _ _ _ h => h) (Or.inl ⟨by rfl, ?hy1⟩) hHeld ?hn1
    case hy1 => (intro wz hSw; (try dsimp only at hSw); go_simp; first | done | with_reducible rfl)
    try simp only [List.getElem_toArray, List.getElem_cons_zero, List.getElem_cons_succ, Act.put, List.setIfInBounds_toArray, List.set_cons_zero, List.set_cons_succ]
    refine' wpAnyH_take (i := 1) (v := _) rfl (by kernel_rfl) (by kernel_rfl) (by kernel_rfl) (fun _ _ _ h => h) (Or.inl ⟨by rfl, ?hy2⟩) hHeld ?hn2
    case hy2 => (intro wz hSw; (try dsimp only at hSw); go_simp; first | done | with_reducible rfl)
    try simp only [List.getElem_toArray, List.getElem_cons_zero, List.getElem_cons_succ, Act.put, List.setIfInBounds_toArray, List.set_cons_zero, List.set_cons_succ]
    refine' wpAnyH_take (i := 2) (v := _) rfl (by kernel_rfl) (by kernel_rfl) (by kernel_rfl) (fun _ _ _ h => h) (Or.inl ⟨by rfl, ?hy3⟩) hHeld ?hn3
    case hy3 => (intro wz hSw; (try dsimp only at hSw); go_simp; first | done | with_reducible rfl)
    try simp only [List.getElem_toArray, List.getElem_cons_zero, List.getElem_cons_succ, Act.put, List.setIfInBounds_toArray, List.set_cons_zero, List.set_cons_succ]
    refine' wpAnyH_take (i := 3) (v := _) rfl (by kernel_rfl) (by kernel_rfl) (by kernel_rfl) (fun _ _ _ h => h) (Or.inl ⟨by rfl, ?hy4⟩) hHeld ?hn4
    case hy4 => (intro wz hSw; (try dsimp only at hSw); go_simp; first | done | with_reducible rfl)
    try simp only [List.getElem_toArray, List.getElem_cons_zero, List.getElem_cons_succ, Act.put, List.setIfInBounds_toArray, List.set_cons_zero, List.set_cons_succ]
    refine' wpAnyH_take (i := 4) (v := _) rfl (by kernel_rfl) (by kernel_rfl) (by kernel_rfl) (fun _ _ _ h => h) (Or.inl ⟨by rfl, ?hy5⟩) hHeld ?hn5
    case hy5 => (intro wz hSw; (try dsimp only at hSw); go_simp; first | done | with_reducible rfl)
    try simp only [List.getElem_toArray, List.getElem_cons_zero, List.getElem_cons_succ, Act.put, List.setIfInBounds_toArray, List.set_cons_zero, List.set_cons_succ]
    refine' wpAnyH_take (i := 5) (v := .slice (some ⟨b, off, none⟩) cut sc) rfl (by kernel_rfl) (by kernel_rfl) (by kernel_rfl) (fun _ _ _ h => h) (Or.inl ⟨by rfl, ?hy6⟩) hHeld ?hn6
    case hy6 => (intro wz hSw; obtain ⟨⟨k0, k1⟩, _⟩ := hSw; go_simp)
    try simp only [List.getElem_toArray, List.getElem_cons_zero, List.getElem_cons_succ, Act.put, List.setIfInBounds_toArray, List.set_cons_zero, List.set_cons_succ]
    refine' wpAnyH_take (i := 6) (v := _) rfl (by kernel_rfl) (by kernel_rfl) (by kernel_rfl) (fun _ _ _ h => h) (Or.inl ⟨by rfl, ?hy7⟩) hHeld ?hn7
    case hy7 => (intro wz hSw; (try dsimp only at hSw); go_simp; first | done | with_reducible rfl)
    try simp only [List.getElem_toArray, List.getElem_cons_zero, List.getElem_cons_succ, Act.put, List.setIfInBounds_toArray, List.set_cons_zero, List.set_cons_succ]
    refine wpAnyH_ready (rs := [7]) (by kernel_rfl) (by simp) ?_
    refine AllReadyH.cons rfl (fun K hK => ?_) AllReadyH.nil
    go_simp
    refine (CA.out _ hHeld.2).mono ?_; rintro e' w9 ⟨rfl, hbx⟩
    refine hK.out _ _ (SF2 hHeld hbx) (fun hHeld => ?_)
    clear hK K
    refine' wpAnyH_take (i := 8) (v := _) rfl (by kernel_rfl) (by kernel_rfl) (by kernel_rfl) (fun _ _ _ h => h) (Or.inl ⟨by rfl, ?hy8⟩) hHeld ?hn8
    case hy8 => (intro wz hSw; (try dsimp only at hSw); go_simp; first | done | with_reducible rfl)
    try simp only [List.getElem_toArray, List.getElem_cons_zero, List.getElem_cons_succ, Act.put, List.setIfInBounds_toArray, List.set_cons_zero, List.set_cons_succ]
    refine' wpAnyH_take (i := 9) (v := _) rfl (by kernel_rfl) (by kernel_rfl) (by kernel_rfl) (fun _ _ _ h => h) (Or.inl ⟨by rfl, ?hy9⟩) hHeld ?hn9
    case hy9 => (intro wz hSw; (try dsimp only at hSw); go_simp; first | done | with_reducible rfl)
    try simp only [List.getElem_toArray, List.getElem_cons_zero, List.getElem_cons_succ, Act.put, List.setIfInBounds_toArray, List.set_cons_zero, List.set_cons_succ]
    refine' wpAnyH_take (i := 10) (v := _) rfl (by kernel_rfl) (by kernel_rfl) (by kernel_rfl) (fun _ _ _ h => h) (Or.inl ⟨by rfl, ?hy10⟩) hHeld ?hn10
    case hy10 => (intro wz hSw; (try dsimp only at hSw); go_simp; first | done | with_reducible rfl)
    try simp only [List.getElem_toArray, List.getElem_cons_zero, List.getElem_cons_succ, Act.put, List.setIfInBounds_toArray, List.set_cons_zero, List.set_cons_succ]
    refine' wpAnyH_take (i := 11) (v := _) rfl (by kernel_rfl) (by kernel_rfl) (by kernel_rfl) (fun _ _ _ h => h) (Or.inl ⟨by rfl, ?hy11⟩) hHeld ?hn11
    case hy11 => (intro wz hSw; (try dsimp only at hSw); go_simp; first | done | with_reducible rfl)
    try simp only [List.getElem_toArray, List.getElem_cons_zero, List.getElem_cons_succ, Act.put, List.setIfInBounds_toArray, List.set_cons_zero, List.set_cons_succ]
    refine' wpAnyH_take (i := 12) (v := _) rfl (by kernel_rfl) (by kernel_rfl) (by kernel_rfl) (fun _ _ _ h => h) (Or.inl ⟨by rfl, ?hy12⟩) hHeld ?hn12
    case hy12 => (intro wz hSw; (try dsimp only at hSw); go_simp; first | done | with_reducible rfl)
    try simp only [List.getElem_toArray, List.getElem_cons_zero, List.getElem_cons_succ, Act.put, List.setIfInBounds_toArray, List.set_cons_zero, List.set_cons_succ]
    refine' wpAnyH_take (i := 13) (v := _) rfl (by kernel_rfl) (by kernel_rfl) (by kernel_rfl) (fun _ _ _ h => h) (Or.inl ⟨by rfl, ?hy13⟩) hHeld ?hn13
    case hy13 => (intro wz hSw; (try dsimp only at hSw); go_simp; first | done | with_reducible rfl)
    try simp only [List.getElem_toArray, List.getElem_cons_zero, List.getElem_cons_succ, Act.put, List.setIfInBounds_toArray, List.set_cons_zero, List.set_cons_succ]
    refine' wpAnyH_take (i := 14) (v := .slice (some X) (l.length - cut) (sc - cut)) rfl (by kernel_rfl) (by kernel_rfl) (by kernel_rfl) (fun _ _ _ h => h) (Or.inl ⟨by rfl, ?hy14⟩) hHeld ?hn14
    case hy14 => (intro wz hSw; obtain ⟨⟨k0, k1⟩, _⟩ := hSw; rw [HX.out]; by_cases hsc : sc = cut; (rw [if_pos hsc]; go_simp; try omega); (rw [if_neg hsc]; go_simp; try omega))
    try simp only [List.getElem_toArray, List.getElem_cons_zero, List.getElem_cons_succ, Act.put, List.setIfInBounds_toArray, List.set_cons_zero, List.set_cons_succ]
    refine' wpAnyH_take (i := 15) (v := _) rfl (by kernel_rfl) (by kernel_rfl) (by kernel_rfl) (fun _ _ _ h => h) (Or.inl ⟨by rfl, ?hy15⟩) hHeld ?hn15
    case hy15 => (intro wz hSw; (try dsimp only at hSw); go_simp; first | done | with_reducible rfl)
    try simp only [List.getElem_toArray, List.getElem_cons_zero, List.getElem_cons_succ, Act.put, List.setIfInBounds_toArray, List.set_cons_zero, List.set_cons_succ]
    refine wpAnyH_ready (rs := [16]) (by kernel_rfl) (by simp) ?_
    refine AllReadyH.cons rfl (fun K hK => ?_) AllReadyH.nil
    go_simp
    refine (CB.out _ hHeld.2).mono ?_; rintro e' w9 ⟨rfl, hbx⟩
    refine hK.out _ _ (SF2 hHeld hbx) (fun hHeld => ?_)
    clear hK K
    refine' wpAnyH_take (i := 17) (v := _) rfl (by kernel_rfl) (by kernel_rfl) (by kernel_rfl) (fun _ _ _ h => h) (Or.inl ⟨by rfl, ?hy16⟩) hHeld ?hn16
    case hy16 => (intro wz hSw; (try dsimp only at hSw); go_simp; first | done | with_reducible rfl)
    try simp only [List.getElem_toArray, List.getElem_cons_zero, List.getElem_cons_succ, Act.put, List.setIfInBounds_toArray, List.set_cons_zero, List.set_cons_succ]
    refine' wpAnyH_take (i := 18) (v := _) rfl (by kernel_rfl) (by kernel_rfl) (by kernel_rfl) (fun _ _ _ h => h) (Or.inl ⟨by rfl, ?hy17⟩) hHeld ?hn17
    case hy17 => (intro wz hSw; (try dsimp only at hSw); go_simp; first | done | with_reducible rfl)
    try simp only [List.getElem_toArray, List.getElem_cons_zero, List.getElem_cons_succ, Act.put, List.setIfInBounds_toArray, List.set_cons_zero, List.set_cons_succ]
    refine wpAnyH_done (by kernel_rfl) ?_ _
    have BB : Below w.heap.size w w9 := Below.then HB1.out (Below.then B3 hHeld.2 B3.size) HB1.out.size
    go_wp2
    go_ret
    exact ⟨rfl, BB⟩
  case inl =>
    have hc0 : cut = 0 := by omega
    have hPB := progB_cut HOK.out 0
    have CA : Hid (∀ wx, Below w3.heap.size w3 wx → Calls Try.prog 20 #[.agg #[.slice la ls.length lc, .slice sa 0 sc]] wx fun e w' => e = .returned (.bool true) ∧ Below wx.heap.size wx w') := (show ∀ wx, _ from fun wx hb => by
      have hb' := Below.then B3 hb B3.size
      have := progOk_any (HL.out wx hb') (rep_take (HR.out wx hb') 0 (by omega))
      rwa [hPB.1] at this)
    have CB : Hid (∀ wx, Below w3.heap.size w3 wx → Calls Try.prog 20 #[.agg #[.slice la ls.length lc, .slice sa l.length sc]] wx fun e w' => e = .returned (.bool true) ∧ Below wx.heap.size wx w') := (show ∀ wx, _ from fun wx hb => by
      have hb' := Below.then B3 hb B3.size
      have := progOk_any (HL.out wx hb') (HR.out wx hb')
      rwa [HOK.out] at this)
    clear hPB hz
    subst hc0
    clear hcut hwm
    cases sa with
    | none =>
      go_wp2_with fail
      refine wp_region_held (S := (fun wz => (wz.cell? ⟨w1.heap.size, 0, none⟩ = some (.slice la ls.length lc) ∧ wz.cell? ⟨w1.heap.size, 1, none⟩ = some (.slice none l.length sc)) ∧ Below w3.heap.size w3 wz)) (by kernel_rfl) ?_
      change wpAnyH _ _ _ _ _ _ _ _ (World.drew _)
      have hHeld := SF1 ⟨⟨x0, x1⟩, Below.refl w3.heap.size w3⟩
      refine' wpAnyH_take (i := 0) (v := _) rfl (by kernel_rfl) (by kernel_rfl) (by kernel_rfl) (fun _ _ _ h => h) (Or.inl ⟨by rfl, ?hy18⟩) hHeld ?hn18
      case hy18 => (intro wz hSw; (try dsimp only at hSw); go_simp; first | done | with_reducible rfl)
      try simp only [List.getElem_toArray, List.getElem_cons_zero, List.getElem_cons_succ, Act.put, List.setIfInBounds_toArray, List.set_cons_zero, List.set_cons_succ]
      refine' wpAnyH_take (i := 1) (v := _) rfl (by kernel_rfl) (by kernel_rfl) (by kernel_rfl) (fun _ _ _ h => h) (Or.inl ⟨by rfl, ?hy19⟩) hHeld ?hn19
      case hy19 => (intro wz hSw; (try dsimp only at hSw); go_simp; first | done | with_reducible rfl)
      try simp only [List.getElem_toArray, List.getElem_cons_zero, List.getElem_cons_succ, Act.put, List.setIfInBounds_toArray, List.set_cons_zero, List.set_cons_succ]
      refine' wpAnyH_take (i := 2) (v := _) rfl (by kernel_rfl) (by kernel_rfl) (by kernel_rfl) (fun _ _ _ h => h) (Or.inl ⟨by rfl, ?hy20⟩) hHeld ?hn20
      case hy20 => (intro wz hSw; (try dsimp only at hSw); go_simp; first | done | with_reducible rfl)
      try simp only [List.getElem_toArray, List.getElem_cons_zero, List.getElem_cons_succ, Act.put, List.setIfInBounds_toArray, List.set_cons_zero, List.set_cons_succ]
      refine' wpAnyH_take (i := 3) (v := _) rfl (by kernel_rfl) (by kernel_rfl) (by kernel_rfl) (fun _ _ _ h => h) (Or.inl ⟨by rfl, ?hy21⟩) hHeld ?hn21
      case hy21 => (intro wz hSw; (try dsimp only at hSw); go_simp; first | done | with_reducible rfl)
      try simp only [List.getElem_toArray, List.getElem_cons_zero, List.getElem_cons_succ, Act.put, List.setIfInBounds_toArray, List.set_cons_zero, List.set_cons_succ]
      refine' wpAnyH_take (i := 4) (v := _) rfl (by kernel_rfl) (by kernel_rfl) (by kernel_rfl) (fun _ _ _ h => h) (Or.inl ⟨by rfl, ?hy22⟩) hHeld ?hn22
      case hy22 => (intro wz hSw; (try dsimp only at hSw); go_simp; first | done | with_reducible rfl)
      try simp only [List.getElem_toArray, List.getElem_cons_zero, List.getElem_cons_succ, Act.put, List.setIfInBounds_toArray, List.set_cons_zero, List.set_cons_succ]
      refine' wpAnyH_take (i := 5) (v := .slice none 0 sc) rfl (by kernel_rfl) (by kernel_rfl) (by kernel_rfl) (fun _ _ _ h => h) (Or.inl ⟨by rfl, ?hy23⟩) hHeld ?hn23
      case hy23 => (intro wz hSw; obtain ⟨⟨k0, k1⟩, _⟩ := hSw; go_simp)
      try simp only [List.getElem_toArray, List.getElem_cons_zero, List.getElem_cons_succ, Act.put, List.setIfInBounds_toArray, List.set_cons_zero, List.set_cons_succ]
      refine' wpAnyH_take (i := 6) (v := _) rfl (by kernel_rfl) (by kernel_rfl) (by kernel_rfl) (fun _ _ _ h => h) (Or.inl ⟨by rfl, ?hy24⟩) hHeld ?hn24
      case hy24 => (intro wz hSw; (try dsimp only at hSw); go_simp; first | done | with_reducible rfl)
      try simp only [List.getElem_toArray, List.getElem_cons_zero, List.getElem_cons_succ, Act.put, List.setIfInBounds_toArray, List.set_cons_zero, List.set_cons_succ]
      refine wpAnyH_ready (rs := [7]) (by kernel_rfl) (by simp) ?_
      refine AllReadyH.cons rfl (fun K hK => ?_) AllReadyH.nil
      go_simp
      refine (CA.out _ hHeld.2).mono ?_; rintro e' w9 ⟨rfl, hbx⟩
      refine hK.out _ _ (SF2 hHeld hbx) (fun hHeld => ?_)
      clear hK K
      refine' wpAnyH_take (i := 8) (v := _) rfl (by kernel_rfl) (by kernel_rfl) (by kernel_rfl) (fun _ _ _ h => h) (Or.inl ⟨by rfl, ?hy25⟩) hHeld ?hn25
      case hy25 => (intro wz hSw; (try dsimp only at hSw); go_simp; first | done | with_reducible rfl)
      try simp only [List.getElem_toArray, List.getElem_cons_zero, List.getElem_cons_succ, Act.put, List.setIfInBounds_toArray, List.set_cons_zero, List.set_cons_succ]
      refine' wpAnyH_take (i := 9) (v := _) rfl (by kernel_rfl) (by kernel_rfl) (by kernel_rfl) (fun _ _ _ h => h) (Or.inl ⟨by rfl, ?hy26⟩) hHeld ?hn26
      case hy26 => (intro wz hSw; (try dsimp only at hSw); go_simp; first | done | with_reducible rfl)
      try simp only [List.getElem_toArray, List.getElem_cons_zero, List.getElem_cons_succ, Act.put, List.setIfInBounds_toArray, List.set_cons_zero, List.set_cons_succ]
      refine' wpAnyH_take (i := 10) (v := _) rfl (by kernel_rfl) (by kernel_rfl) (by kernel_rfl) (fun _ _ _ h => h) (Or.inl ⟨by rfl, ?hy27⟩) hHeld ?hn27
      case hy27 => (intro wz hSw; (try dsimp only at hSw); go_simp; first | done | with_reducible rfl)
      try simp only [List.getElem_toArray, List.getElem_cons_zero, List.getElem_cons_succ, Act.put, List.setIfInBounds_toArray, List.set_cons_zero, List.set_cons_succ]
      refine' wpAnyH_take (i := 11) (v := _) rfl (by kernel_rfl) (by kernel_rfl) (by kernel_rfl) (fun _ _ _ h => h) (Or.inl ⟨by rfl, ?hy28⟩) hHeld ?hn28
      case hy28 => (intro wz hSw; (try dsimp only at hSw); go_simp; first | done | with_reducible rfl)
      try simp only [List.getElem_toArray, List.getElem_cons_zero, List.getElem_cons_succ, Act.put, List.setIfInBounds_toArray, List.set_cons_zero, List.set_cons_succ]
      refine' wpAnyH_take (i := 12) (v := _) rfl (by kernel_rfl) (by kernel_rfl) (by kernel_rfl) (fun _ _ _ h => h) (Or.inl ⟨by rfl, ?hy29⟩) hHeld ?hn29
      case hy29 => (intro wz hSw; (try dsimp only at hSw); go_simp; first | done | with_reducible rfl)
      try simp only [List.getElem_toArray, List.getElem_cons_zero, List.getElem_cons_succ, Act.put, List.setIfInBounds_toArray, List.set_cons_zero, List.set_cons_succ]
      refine' wpAnyH_take (i := 13) (v := _) rfl (by kernel_rfl) (by kernel_rfl) (by kernel_rfl) (fun _ _ _ h => h) (Or.inl ⟨by rfl, ?hy30⟩) hHeld ?hn30
      case hy30 => (intro wz hSw; (try dsimp only at hSw); go_simp; first | done | with_reducible rfl)
      try simp only [List.getElem_toArray, List.getElem_cons_zero, List.getElem_cons_succ, Act.put, List.setIfInBounds_toArray, List.set_cons_zero, List.set_cons_succ]
      refine' wpAnyH_take (i := 14) (v := .slice none l.length sc) rfl (by kernel_rfl) (by kernel_rfl) (by kernel_rfl) (fun _ _ _ h => h) (Or.inl ⟨by rfl, ?hy31⟩) hHeld ?hn31
      case hy31 => (intro wz hSw; obtain ⟨⟨k0, k1⟩, _⟩ := hSw; go_simp)
      try simp only [List.getElem_toArray, List.getElem_cons_zero, List.getElem_cons_succ, Act.put, List.setIfInBounds_toArray, List.set_cons_zero, List.set_cons_succ]
      refine' wpAnyH_take (i := 15) (v := _) rfl (by kernel_rfl) (by kernel_rfl) (by kernel_rfl) (fun _ _ _ h => h) (Or.inl ⟨by rfl, ?hy32⟩) hHeld ?hn32
      case hy32 => (intro wz hSw; (try dsimp only at hSw); go_simp; first | done | with_reducible rfl)
      try simp only [List.getElem_toArray, List.getElem_cons_zero, List.getElem_cons_succ, Act.put, List.setIfInBounds_toArray, List.set_cons_zero, List.set_cons_succ]
      refine wpAnyH_ready (rs := [16]) (by kernel_rfl) (by simp) ?_
      refine AllReadyH.cons rfl (fun K hK => ?_) AllReadyH.nil
      go_simp
      refine (CB.out _ hHeld.2).mono ?_; rintro e' w9 ⟨rfl, hbx⟩
      refine hK.out _ _ (SF2 hHeld hbx) (fun hHeld => ?_)
      clear hK K
      refine' wpAnyH_take (i := 17) (v := _) rfl (by kernel_rfl) (by kernel_rfl) (by kernel_rfl) (fun _ _ _ h => h) (Or.inl ⟨by rfl, ?hy33⟩) hHeld ?hn33
      case hy33 => (intro wz hSw; (try dsimp only at hSw); go_simp; first | done | with_reducible rfl)
      try simp only [List.getElem_toArray, List.getElem_cons_zero, List.getElem_cons_succ, Act.put, List.setIfInBounds_toArray, List.set_cons_zero, List.set_cons_succ]
      refine' wpAnyH_take (i := 18) (v := _) rfl (by kernel_rfl) (by kernel_rfl) (by kernel_rfl) (fun _ _ _ h => h) (Or.inl ⟨by rfl, ?hy34⟩) hHeld ?hn34
      case hy34 => (intro wz hSw; (try dsimp only at hSw); go_simp; first | done | with_reducible rfl)
      try simp only [List.getElem_toArray, List.getElem_cons_zero, List.getElem_cons_succ, Act.put, List.setIfInBounds_toArray, List.set_cons_zero, List.set_cons_succ]
      refine wpAnyH_done (by kernel_rfl) ?_ _
      have BB : Below w.heap.size w w9 := Below.then HB1.out (Below.then B3 hHeld.2 B3.size) HB1.out.size
      go_wp2
      go_ret
      exact ⟨rfl, BB⟩
    | some a =>
      go_wp2_with fail
      refine wp_region_held (S := (fun wz => (wz.cell? ⟨w1.heap.size, 0, none⟩ = some (.slice la ls.length lc) ∧ wz.cell? ⟨w1.heap.size, 1, none⟩ = some (.slice (some a) l.length sc)) ∧ Below w3.heap.size w3 wz)) (by kernel_rfl) ?_
      change wpAnyH _ _ _ _ _ _ _ _ (World.drew _)
      have hHeld := SF1 ⟨⟨x0, x1⟩, Below.refl w3.heap.size w3⟩
      refine' wpAnyH_take (i := 0) (v := _) rfl (by kernel_rfl) (by kernel_rfl) (by kernel_rfl) (fun _ _ _ h => h) (Or.inl ⟨by rfl, ?hy35⟩) hHeld ?hn35
      case hy35 => (intro wz hSw; (try dsimp only at hSw); go_simp; first | done | with_reducible rfl)
      try simp only [List.getElem_toArray, List.getElem_cons_zero, List.getElem_cons_succ, Act.put, List.setIfInBounds_toArray, List.set_cons_zero, List.set_cons_succ]
      refine' wpAnyH_take (i := 1) (v := _) rfl (by kernel_rfl) (by kernel_rfl) (by kernel_rfl) (fun _ _ _ h => h) (Or.inl ⟨by rfl, ?hy36⟩) hHeld ?hn36
      case hy36 => (intro wz hSw; (try dsimp only at hSw); go_simp; first | done | with_reducible rfl)
      try simp only [List.getElem_toArray, List.getElem_cons_zero, List.getElem_cons_succ, Act.put, List.setIfInBounds_toArray, List.set_cons_zero, List.set_cons_succ]
      refine' wpAnyH_take (i := 2) (v := _) rfl (by kernel_rfl) (by kernel_rfl) (by kernel_rfl) (fun _ _ _ h => h) (Or.inl ⟨by rfl, ?hy37⟩) hHeld ?hn37
      case hy37 => (intro wz hSw; (try dsimp only at hSw); go_simp; first | done | with_reducible rfl)
      try simp only [List.getElem_toArray, List.getElem_cons_zero, List.getElem_cons_succ, Act.put, List.setIfInBounds_toArray, List.set_cons_zero, List.set_cons_succ]
      refine' wpAnyH_take (i := 3) (v := _) rfl (by kernel_rfl) (by kernel_rfl) (by kernel_rfl) (fun _ _ _ h => h) (Or.inl ⟨by rfl, ?hy38⟩) hHeld ?hn38
      case hy38 => (intro wz hSw; (try dsimp only at hSw); go_simp; first | done | with_reducible rfl)
      try simp only [List.getElem_toArray, List.getElem_cons_zero, List.getElem_cons_succ, Act.put, List.setIfInBounds_toArray, List.set_cons_zero, List.set_cons_succ]
      refine' wpAnyH_take (i := 4) (v := _) rfl (by kernel_rfl) (by kernel_rfl) (by kernel_rfl) (fun _ _ _ h => h) (Or.inl ⟨by rfl, ?hy39⟩) hHeld ?hn39
      case hy39 => (intro wz hSw; (try dsimp only at hSw); go_simp; first | done | with_reducible rfl)
      try simp only [List.getElem_toArray, List.getElem_cons_zero, List.getElem_cons_succ, Act.put, List.setIfInBounds_toArray, List.set_cons_zero, List.set_cons_succ]
      refine' wpAnyH_take (i := 5) (v := .slice (some a) 0 sc) rfl (by kernel_rfl) (by kernel_rfl) (by kernel_rfl) (fun _ _ _ h => h) (Or.inl ⟨by rfl, ?hy40⟩) hHeld ?hn40
      case hy40 => (intro wz hSw; obtain ⟨⟨k0, k1⟩, _⟩ := hSw; go_simp)
      try simp only [List.getElem_toArray, List.getElem_cons_zero, List.getElem_cons_succ, Act.put, List.setIfInBounds_toArray, List.set_cons_zero, List.set_cons_succ]
      refine' wpAnyH_take (i := 6) (v := _) rfl (by kernel_rfl) (by kernel_rfl) (by kernel_rfl) (fun _ _ _ h => h) (Or.inl ⟨by rfl, ?hy41⟩) hHeld ?hn41
      case hy41 => (intro wz hSw; (try dsimp only at hSw); go_simp; first | done | with_reducible rfl)
      try simp only [List.getElem_toArray, List.getElem_cons_zero, List.getElem_cons_succ, Act.put, List.setIfInBounds_toArray, List.set_cons_zero, List.set_cons_succ]
      refine wpAnyH_ready (rs := [7]) (by kernel_rfl) (by simp) ?_
      refine AllReadyH.cons rfl (fun K hK => ?_) AllReadyH.nil
      go_simp
      refine (CA.out _ hHeld.2).mono ?_; rintro e' w9 ⟨rfl, hbx⟩
      refine hK.out _ _ (SF2 hHeld hbx) (fun hHeld => ?_)
      clear hK K
      refine' wpAnyH_take (i := 8) (v := _) rfl (by kernel_rfl) (by kernel_rfl) (by kernel_rfl) (fun _ _ _ h => h) (Or.inl ⟨by rfl, ?hy42⟩) hHeld ?hn42
      case hy42 => (intro wz hSw; (try dsimp only at hSw); go_simp; first | done | with_reducible rfl)
      try simp only [List.getElem_toArray, List.getElem_cons_zero, List.getElem_cons_succ, Act.put, List.setIfInBounds_toArray, List.set_cons_zero, List.set_cons_succ]
      refine' wpAnyH_take (i := 9) (v := _) rfl (by kernel_rfl) (by kernel_rfl) (by kernel_rfl) (fun _ _ _ h => h) (Or.inl ⟨by rfl, ?hy43⟩) hHeld ?hn43
      case hy43 => (intro wz hSw; (try dsimp only at hSw); go_simp; first | done | with_reducible rfl)
      try simp only [List.getElem_toArray, List.getElem_cons_zero, List.getElem_cons_succ, Act.put, List.setIfInBounds_toArray, List.set_cons_zero, List.set_cons_succ]
      refine' wpAnyH_take (i := 10) (v := _) rfl (by kernel_rfl) (by kernel_rfl) (by kernel_rfl) (fun _ _ _ h => h) (Or.inl ⟨by rfl, ?hy44⟩) hHeld ?hn44
      case hy44 => (intro wz hSw; (try dsimp only at hSw); go_simp; first | done | with_reducible rfl)
      try simp only [List.getElem_toArray, List.getElem_cons_zero, List.getElem_cons_succ, Act.put, List.setIfInBounds_toArray, List.set_cons_zero, List.set_cons_succ]
      refine' wpAnyH_take (i := 11) (v := _) rfl (by kernel_rfl) (by kernel_rfl) (by kernel_rfl) (fun _ _ _ h => h) (Or.inl ⟨by rfl, ?hy45⟩) hHeld ?hn45
      case hy45 => (intro wz hSw; (try dsimp only at hSw); go_simp; first | done | with_reducible rfl)
      try simp only [List.getElem_toArray, List.getElem_cons_zero, List.getElem_cons_succ, Act.put, List.setIfInBounds_toArray, List.set_cons_zero, List.set_cons_succ]
      refine' wpAnyH_take (i := 12) (v := _) rfl (by kernel_rfl) (by kernel_rfl) (by kernel_rfl) (fun _ _ _ h => h) (Or.inl ⟨by rfl, ?hy46⟩) hHeld ?hn46
      case hy46 => (intro wz hSw; (try dsimp only at hSw); go_simp; first | done | with_reducible rfl)
      try simp only [List.getElem_toArray, List.getElem_cons_zero, List.getElem_cons_succ, Act.put, List.setIfInBounds_toArray, List.set_cons_zero, List.set_cons_succ]
      refine' wpAnyH_take (i := 13) (v := _) rfl (by kernel_rfl) (by kernel_rfl) (by kernel_rfl) (fun _ _ _ h => h) (Or.inl ⟨by rfl, ?hy47⟩) hHeld ?hn47
      case hy47 => (intro wz hSw; (try dsimp only at hSw); go_simp; first | done | with_reducible rfl)
      try simp only [List.getElem_toArray, List.getElem_cons_zero, List.getElem_cons_succ, Act.put, List.setIfInBounds_toArray, List.set_cons_zero, List.set_cons_succ]
      refine' wpAnyH_take (i := 14) (v := .slice (some a) l.length sc) rfl (by kernel_rfl) (by kernel_rfl) (by kernel_rfl) (fun _ _ _ h => h) (Or.inl ⟨by rfl, ?hy48⟩) hHeld ?hn48
      case hy48 => (intro wz hSw; obtain ⟨⟨k0, k1⟩, _⟩ := hSw; go_simp)
      try simp only [List.getElem_toArray, List.getElem_cons_zero, List.getElem_cons_succ, Act.put, List.setIfInBounds_toArray, List.set_cons_zero, List.set_cons_succ]
      refine' wpAnyH_take (i := 15) (v := _) rfl (by kernel_rfl) (by kernel_rfl) (by kernel_rfl) (fun _ _ _ h => h) (Or.inl ⟨by rfl, ?hy49⟩) hHeld ?hn49
      case hy49 => (intro wz hSw; (try dsimp only at hSw); go_simp; first | done | with_reducible rfl)
      try simp only [List.getElem_toArray, List.getElem_cons_zero, List.getElem_cons_succ, Act.put, List.setIfInBounds_toArray, List.set_cons_zero, List.set_cons_succ]
      refine wpAnyH_ready (rs := [16]) (by kernel_rfl) (by simp) ?_
      refine AllReadyH.cons rfl (fun K hK => ?_) AllReadyH.nil
      go_simp
      refine (CB.out _ hHeld.2).mono ?_; rintro e' w9 ⟨rfl, hbx⟩
      refine hK.out _ _ (SF2 hHeld hbx) (fun hHeld => ?_)
      clear hK K
      refine' wpAnyH_take (i := 17) (v := _) rfl (by kernel_rfl) (by kernel_rfl) (by kernel_rfl) (fun _ _ _ h => h) (Or.inl ⟨by rfl, ?hy50⟩) hHeld ?hn50
      case hy50 => (intro wz hSw; (try dsimp only at hSw); go_simp; first | done | with_reducible rfl)
      try simp only [List.getElem_toArray, List.getElem_cons_zero, List.getElem_cons_succ, Act.put, List.setIfInBounds_toArray, List.set_cons_zero, List.set_cons_succ]
      refine' wpAnyH_take (i := 18) (v := _) rfl (by kernel_rfl) (by kernel_rfl) (by kernel_rfl) (fun _ _ _ h => h) (Or.inl ⟨by rfl, ?hy51⟩) hHeld ?hn51
      case hy51 => (intro wz hSw; (try dsimp only at hSw); go_simp; first | done | with_reducible rfl)
      try simp only [List.getElem_toArray, List.getElem_cons_zero, List.getElem_cons_succ, Act.put, List.setIfInBounds_toArray, List.set_cons_zero, List.set_cons_succ]
      refine wpAnyH_done (by kernel_rfl) ?_ _
      have BB : Below w.heap.size w w9 := Below.then HB1.out (Below.then B3 hHeld.2 B3.size) HB1.out.size
      go_wp2
      go_ret
      exact ⟨rfl, BB⟩

end Go.Proofs.Ytpcmhkcahajdgaa
