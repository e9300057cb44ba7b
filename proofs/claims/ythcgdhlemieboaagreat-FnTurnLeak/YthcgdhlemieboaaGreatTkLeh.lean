/- slices.Equal of numbers; what is asked of two rows. -/
import Derived.Test.YthcgdhlemieboaaGreatTkLeg
import Derived.Test.YthcgdhlemieboaaGreatTkLeb
import Derived.Deep.RegionHeld3
import Derived.Deep.DrawnRows
namespace Go.Proofs.YthcgdhlemieboaaGreat
open Go.RowKit
set_option linter.unusedSimpArgs false
set_option linter.unusedVariables false
attribute [local go_sem] World.cell?_alloc_some

set_option maxHeartbeats 4000000 in
theorem sliceEqI_any {v v' : Value} {xs ys : List Int} {w : World} (h : GRep (Value.int .i64) w v xs) (h' : GRep (Value.int .i64) w v' ys) :
    Calls Tryz.prog 23 #[v, v'] w fun e w' => e = .returned (.bool (decide (xs = ys))) ∧ Below w.heap.size w w' := by
  obtain ⟨a, c, rfl, hlc, hcm, hcell⟩ := h
  obtain ⟨a', c', rfl, hlc', hcm', hcell'⟩ := h'
  have hkm : (xs.length : Int) ≤ 9223372036854775807 := by unfold maxLen at hcm; omega
  have hkm' : (ys.length : Int) ≤ 9223372036854775807 := by unfold maxLen at hcm'; omega
  by_cases hlen : xs.length = ys.length
  case neg =>
    have HD : Hid (decide (xs = ys) = false) := decide_eq_false (fun h => hlen (by rw [h]))
    have hl2 : ¬ (xs.length : Int) = (ys.length : Int) := by omega
    clear hcell hcell'
    go_enter Tryz.func23, Tryz.ntmps23
    go_wp2
    go_ret
    exact ⟨by rw [HD.out]; rfl, Below.refl _ _⟩
  have HC : Hid (∀ i (hi : i < xs.length), ∃ b off b' off', (a = some ⟨b, off, none⟩ ∧ w.cell? ⟨b, off + i, none⟩ = some (.int .i64 (xs.getD i 0))) ∧ (a' = some ⟨b', off', none⟩ ∧ w.cell? ⟨b', off' + i, none⟩ = some (.int .i64 (ys.getD i 0)))) := (show ∀ i (hi : i < xs.length), _ from fun i hi => by
    obtain ⟨b, off, ha, h0⟩ := hcell i (by omega)
    obtain ⟨b', off', ha', h0'⟩ := hcell' i (by omega)
    refine ⟨b, off, b', off', ⟨ha, ?_⟩, ⟨ha', ?_⟩⟩
    · rw [h0, List.getD_eq_getElem?_getD, List.getElem?_eq_getElem (by omega), Option.getD_some]
    · rw [h0', List.getD_eq_getElem?_getD, List.getElem?_eq_getElem (by omega), Option.getD_some])
  have HLN : Hid (xs.length = ys.length) := hlen
  have hl2 : ((ys.length : Nat) : Int) = ((xs.length : Nat) : Int) := by omega
  clear hcell hcell' hlen
  go_enter Tryz.func23, Tryz.ntmps23
  go_wp2_with fail
  clear hl2
  go_loopw [13] (fun j wr => ∃ (i : Nat), i ≤ xs.length ∧ j = .int .i64 i ∧ Below w.heap.size w wr ∧ Hid (∀ q, q < i → xs.getD q 0 = ys.getD q 0)) (fun j _ => xs.length - (intOf j).toNat)
  case atStart => exact ⟨0, by omega, rfl, Below.refl _ _, (show ∀ q, q < 0 → _ from fun q hq => by omega)⟩
  case round =>
    obtain ⟨i, hi, rfl, hbr, HQ⟩ := hrel
    have HBR : Hid (Below w.heap.size w wr) := hbr
    clear hbr
    by_cases hlt : i < xs.length
    · obtain ⟨b, off, b', off', ⟨rfl, k0⟩, rfl, m0⟩ := HC.out i hlt
      have i1' : (i : Int) < (xs.length : Int) := by omega
      have i2' : (i : Int) < (ys.length : Int) := by have := HLN.out; omega
      obtain ⟨x, hxx⟩ : ∃ x, xs.getD i 0 = x := ⟨_, rfl⟩
      obtain ⟨y, hyy⟩ : ∃ y, ys.getD i 0 = y := ⟨_, rfl⟩
      rw [hxx] at k0
      rw [hyy] at m0
      have HXX : Hid _ := hxx
      have HYY : Hid _ := hyy
      clear hxx hyy
      by_cases hxy : x = y
      · subst hxy
        go_wp2_with fail
        refine wp_region_held (S := (fun wz => Below w.heap.size w wz)) (by kernel_rfl) ?_
        change wpAnyH _ _ _ _ _ _ _ _ (World.drew _)
        have hHeld := HBR.out.drew
        refine' wpAnyH_take (i := 0) (v := _) rfl (by kernel_rfl) (by kernel_rfl) (by kernel_rfl) (fun _ _ _ h => h) (Or.inl ⟨by rfl, ?hy17001⟩) hHeld ?hn17001
        case hy17001 => (intro wz hSw; (try dsimp only at hSw); go_simp; first | done | with_reducible rfl)
        try simp only [nrm, Act.put]
        refine' wpAnyH_take (i := 1) (v := _) rfl (by kernel_rfl) (by kernel_rfl) (by kernel_rfl) (fun _ _ _ h => h) (Or.inl ⟨by rfl, ?hy17002⟩) hHeld ?hn17002
        case hy17002 => (intro wz hSw; (try dsimp only at hSw); go_simp; first | done | with_reducible rfl)
        try simp only [nrm, Act.put]
        refine' wpAnyH_take (i := 2) (v := _) rfl (by kernel_rfl) (by kernel_rfl) (by kernel_rfl) (fun _ _ _ h => h) (Or.inl ⟨by rfl, ?hy17003⟩) hHeld ?hn17003
        case hy17003 => (intro wz hSw; (try dsimp only at hSw); go_simp; first | done | with_reducible rfl)
        try simp only [nrm, Act.put]
        refine' wpAnyH_take (i := 3) (v := (.int .i64 x)) rfl (by kernel_rfl) (by kernel_rfl) (by kernel_rfl) (fun _ _ _ h => h) (Or.inl ⟨by rfl, ?hy17004⟩) hHeld ?hn17004
        case hy17004 => (intro wz hSw; have k0 := cell_later hSw k0; go_simp)
        try simp only [nrm, Act.put]
        refine' wpAnyH_take (i := 4) (v := _) rfl (by kernel_rfl) (by kernel_rfl) (by kernel_rfl) (fun _ _ _ h => h) (Or.inl ⟨by rfl, ?hy17005⟩) hHeld ?hn17005
        case hy17005 => (intro wz hSw; (try dsimp only at hSw); go_simp; first | done | with_reducible rfl)
        try simp only [nrm, Act.put]
        refine' wpAnyH_take (i := 5) (v := _) rfl (by kernel_rfl) (by kernel_rfl) (by kernel_rfl) (fun _ _ _ h => h) (Or.inl ⟨by rfl, ?hy17006⟩) hHeld ?hn17006
        case hy17006 => (intro wz hSw; (try dsimp only at hSw); go_simp; first | done | with_reducible rfl)
        try simp only [nrm, Act.put]
        refine' wpAnyH_take (i := 6) (v := _) rfl (by kernel_rfl) (by kernel_rfl) (by kernel_rfl) (fun _ _ _ h => h) (Or.inl ⟨by rfl, ?hy17007⟩) hHeld ?hn17007
        case hy17007 => (intro wz hSw; (try dsimp only at hSw); go_simp; first | done | with_reducible rfl)
        try simp only [nrm, Act.put]
        refine' wpAnyH_take (i := 7) (v := (.int .i64 x)) rfl (by kernel_rfl) (by kernel_rfl) (by kernel_rfl) (fun _ _ _ h => h) (Or.inl ⟨by rfl, ?hy17008⟩) hHeld ?hn17008
        case hy17008 => (intro wz hSw; have k0 := cell_later hSw m0; go_simp)
        try simp only [nrm, Act.put]
        refine' wpAnyH_take (i := 8) (v := (.bool false)) rfl (by kernel_rfl) (by kernel_rfl) (by kernel_rfl) (fun _ _ _ h => h) (Or.inl ⟨by rfl, ?hy17009⟩) hHeld ?hn17009
        case hy17009 => (intro wz hSw; go_simp; first | done | (simp; done))
        try simp only [nrm, Act.put]
        refine wpAnyH_done (by kernel_rfl) ?_ _
        have BD : Hid (Below w.heap.size w (World.drew wr)) := HBR.out.drew
        clear hHeld k0 m0
        go_wp2
        exact ⟨⟨i + 1, by omega, by simp, BD.out, (show ∀ q, q < i + 1 → _ from fun q hq => by
          by_cases e : q = i
          · subst e; rw [HXX.out, HYY.out]
          · exact HQ.out q (by omega))⟩, by simp [intOf]; omega⟩
      · go_wp2_with fail
        refine wp_region_held (S := (fun wz => Below w.heap.size w wz)) (by kernel_rfl) ?_
        change wpAnyH _ _ _ _ _ _ _ _ (World.drew _)
        have hHeld := HBR.out.drew
        refine' wpAnyH_take (i := 0) (v := _) rfl (by kernel_rfl) (by kernel_rfl) (by kernel_rfl) (fun _ _ _ h => h) (Or.inl ⟨by rfl, ?hy17010⟩) hHeld ?hn17010
        case hy17010 => (intro wz hSw; (try dsimp only at hSw); go_simp; first | done | with_reducible rfl)
        try simp only [nrm, Act.put]
        refine' wpAnyH_take (i := 1) (v := _) rfl (by kernel_rfl) (by kernel_rfl) (by kernel_rfl) (fun _ _ _ h => h) (Or.inl ⟨by rfl, ?hy17011⟩) hHeld ?hn17011
        case hy17011 => (intro wz hSw; (try dsimp only at hSw); go_simp; first | done | with_reducible rfl)
        try simp only [nrm, Act.put]
        refine' wpAnyH_take (i := 2) (v := _) rfl (by kernel_rfl) (by kernel_rfl) (by kernel_rfl) (fun _ _ _ h => h) (Or.inl ⟨by rfl, ?hy17012⟩) hHeld ?hn17012
        case hy17012 => (intro wz hSw; (try dsimp only at hSw); go_simp; first | done | with_reducible rfl)
        try simp only [nrm, Act.put]
        refine' wpAnyH_take (i := 3) (v := (.int .i64 x)) rfl (by kernel_rfl) (by kernel_rfl) (by kernel_rfl) (fun _ _ _ h => h) (Or.inl ⟨by rfl, ?hy17013⟩) hHeld ?hn17013
        case hy17013 => (intro wz hSw; have k0 := cell_later hSw k0; go_simp)
        try simp only [nrm, Act.put]
        refine' wpAnyH_take (i := 4) (v := _) rfl (by kernel_rfl) (by kernel_rfl) (by kernel_rfl) (fun _ _ _ h => h) (Or.inl ⟨by rfl, ?hy17014⟩) hHeld ?hn17014
        case hy17014 => (intro wz hSw; (try dsimp only at hSw); go_simp; first | done | with_reducible rfl)
        try simp only [nrm, Act.put]
        refine' wpAnyH_take (i := 5) (v := _) rfl (by kernel_rfl) (by kernel_rfl) (by kernel_rfl) (fun _ _ _ h => h) (Or.inl ⟨by rfl, ?hy17015⟩) hHeld ?hn17015
        case hy17015 => (intro wz hSw; (try dsimp only at hSw); go_simp; first | done | with_reducible rfl)
        try simp only [nrm, Act.put]
        refine' wpAnyH_take (i := 6) (v := _) rfl (by kernel_rfl) (by kernel_rfl) (by kernel_rfl) (fun _ _ _ h => h) (Or.inl ⟨by rfl, ?hy17016⟩) hHeld ?hn17016
        case hy17016 => (intro wz hSw; (try dsimp only at hSw); go_simp; first | done | with_reducible rfl)
        try simp only [nrm, Act.put]
        refine' wpAnyH_take (i := 7) (v := (.int .i64 y)) rfl (by kernel_rfl) (by kernel_rfl) (by kernel_rfl) (fun _ _ _ h => h) (Or.inl ⟨by rfl, ?hy17017⟩) hHeld ?hn17017
        case hy17017 => (intro wz hSw; have k0 := cell_later hSw m0; go_simp)
        try simp only [nrm, Act.put]
        refine' wpAnyH_take (i := 8) (v := (.bool true)) rfl (by kernel_rfl) (by kernel_rfl) (by kernel_rfl) (fun _ _ _ h => h) (Or.inl ⟨by rfl, ?hy17018⟩) hHeld ?hn17018
        case hy17018 => (intro wz hSw; go_simp; first | done | (simp [hxy]; done) | simpa using hxy)
        try simp only [nrm, Act.put]
        refine wpAnyH_done (by kernel_rfl) ?_ _
        have BD : Hid (Below w.heap.size w (World.drew wr)) := HBR.out.drew
        have HNO : Hid (decide (xs = ys) = false) := decide_eq_false (fun h => hxy (by rw [← HXX.out, ← HYY.out, h]))
        clear hHeld k0 m0
        go_wp2
        go_ret
        exact ⟨by rw [HNO.out]; rfl, BD.out⟩
    · have hie : i = xs.length := by omega
      subst hie
      have HYES : Hid (decide (xs = ys) = true) := decide_eq_true (List.ext_getElem HLN.out fun q h1 h2 => by
        have := HQ.out q h1
        rwa [List.getD_eq_getElem?_getD, List.getD_eq_getElem?_getD, List.getElem?_eq_getElem h1, List.getElem?_eq_getElem h2, Option.getD_some, Option.getD_some] at this)
      go_wp2
      go_ret
      exact ⟨by rw [HYES.out]; rfl, HBR.out⟩

set_option maxHeartbeats 8000000 in
set_option maxRecDepth 20000 in
theorem holdsL_any {r1a n1a w1a s1a r2a n2a w2a s2a : Option Addr} {r1c n1l n1c w1l w1c s1c r2c n2l n2c w2l w2c s2c : Nat} {zs1 zs2 : List Int} {ss1 ss2 : List (Int × Int)} {ks : List Bool} {kv : Value} {bK bH kb : Addr} (h : Int) {w : World}
    (hK : w.cell? bK = some (.func (.func 46) #[] #[.pointer (some kb)])) (hH : w.cell? bH = some (.int .i64 h)) (hkb : w.cell? kb = some kv) (hkv : GRep Value.bool w kv ks) (g1 : GRep (Value.int .i64) w (.slice r1a zs1.length r1c) zs1) (g2 : GRep (Value.int .i64) w (.slice r2a zs2.length r2c) zs2) (e1 : LRep w (.slice s1a ss1.length s1c) ss1) (e2 : LRep w (.slice s2a ss2.length s2c) ss2)
    (hx : ks.length ≤ zs1.length) (hy : ks.length ≤ zs2.length) (l1 : ss1.length ≤ 8) (l2 : ss2.length ≤ 8) :
    Calls Tryz.prog 22 #[.agg #[.slice r1a zs1.length r1c, .slice n1a n1l n1c, .slice w1a w1l w1c, .slice s1a ss1.length s1c], .agg #[.slice r2a zs2.length r2c, .slice n2a n2l n2c, .slice w2a w2l w2c, .slice s2a ss2.length s2c], .pointer (some bK), .pointer (some bH)] w fun e w' => e = .returned (.bool (sameB ks zs1 zs2 && !decide (toH h ss1 = toH h ss2))) ∧ Below w.heap.size w w' := by
  have A2 : Below w.heap.size w ((w.alloc (.cells #[.slice r1a zs1.length r1c, .slice n1a n1l n1c, .slice w1a w1l w1c, .slice s1a ss1.length s1c] 53)).alloc (.cells #[.slice r2a zs2.length r2c, .slice n2a n2l n2c, .slice w2a w2l w2c, .slice s2a ss2.length s2c] 53)) := ((Below.refl _ _).alloc (Nat.le_refl _) _).alloc (by simp) _
  obtain ⟨w2, hw2⟩ : ∃ W, (w.alloc (.cells #[.slice r1a zs1.length r1c, .slice n1a n1l n1c, .slice w1a w1l w1c, .slice s1a ss1.length s1c] 53)).alloc (.cells #[.slice r2a zs2.length r2c, .slice n2a n2l n2c, .slice w2a w2l w2c, .slice s2a ss2.length s2c] 53) = W := ⟨_, rfl⟩
  have c1 : w2.cell? ⟨w.heap.size, 0, none⟩ = some (.slice r1a zs1.length r1c) ∧ w2.cell? ⟨w.heap.size, 1, none⟩ = some (.slice n1a n1l n1c) ∧ w2.cell? ⟨w.heap.size, 2, none⟩ = some (.slice w1a w1l w1c) ∧ w2.cell? ⟨w.heap.size, 3, none⟩ = some (.slice s1a ss1.length s1c) := by rw [← hw2]; refine ⟨?_, ?_, ?_, ?_⟩ <;> simp
  have c2 : w2.cell? ⟨w.heap.size + 1, 0, none⟩ = some (.slice r2a zs2.length r2c) ∧ w2.cell? ⟨w.heap.size + 1, 1, none⟩ = some (.slice n2a n2l n2c) ∧ w2.cell? ⟨w.heap.size + 1, 2, none⟩ = some (.slice w2a w2l w2c) ∧ w2.cell? ⟨w.heap.size + 1, 3, none⟩ = some (.slice s2a ss2.length s2c) := by rw [← hw2]; refine ⟨?_, ?_, ?_, ?_⟩ <;> simp
  rw [hw2] at A2
  have HX : Hid (∀ wz, Below w2.heap.size w2 wz → Below w.heap.size w wz) := (show ∀ wz, _ from fun wz hb => Below.then A2 hb A2.size)
  have HW2 : Hid _ := hw2
  have HKB : Hid _ := hkb
  have HKV : Hid _ := hkv
  have HG1 : Hid _ := g1
  have HG2 : Hid _ := g2
  have HE1 : Hid _ := e1
  have HE2 : Hid _ := e2
  obtain ⟨a0, a1, a2, a3⟩ := c1
  obtain ⟨b0, b1, b2, b3⟩ := c2
  have hK2' := cell_later A2 hK
  have hH2' := cell_later A2 hH
  clear hw2 A2 hkb hkv g1 g2 e1 e2 hK hH
  obtain ⟨sb, hsb⟩ : ∃ x, sameB ks zs1 zs2 = x := ⟨_, rfl⟩
  have HSB : Hid _ := hsb
  obtain ⟨db, hdb⟩ : ∃ x, decide (toH h ss1 = toH h ss2) = x := ⟨_, rfl⟩
  have HDB : Hid _ := hdb
  rw [hsb, hdb]
  clear hsb hdb
  go_enter Tryz.func22, Tryz.ntmps22
  go_wp2_with fail
  rw [HW2.out]
  clear HW2
  cases sb
  · refine wp_region_held (S := (fun wz => Below w2.heap.size w2 wz)) (by kernel_rfl) ?_
    change wpAnyH _ _ _ _ _ _ _ _ (World.drew _)
    have hHeld := (Below.refl w2.heap.size w2).drew
    refine' wpAnyH_take (i := 0) (v := (.func (.func 46) #[] #[.pointer (some kb)])) rfl (by kernel_rfl) (by kernel_rfl) (by kernel_rfl) (fun _ _ _ h => h) (Or.inl ⟨by rfl, ?hy17019⟩) hHeld ?hn17019
    case hy17019 => (intro wz hSw; have k0 := cell_later hSw hK2'; go_simp)
    try simp only [nrm, Act.put]
    refine' wpAnyH_take (i := 1) (v := _) rfl (by kernel_rfl) (by kernel_rfl) (by kernel_rfl) (fun _ _ _ h => h) (Or.inl ⟨by rfl, ?hy17020⟩) hHeld ?hn17020
    case hy17020 => (intro wz hSw; (try dsimp only at hSw); go_simp; first | done | with_reducible rfl)
    try simp only [nrm, Act.put]
    refine' wpAnyH_take (i := 2) (v := (.slice r1a zs1.length r1c)) rfl (by kernel_rfl) (by kernel_rfl) (by kernel_rfl) (fun _ _ _ h => h) (Or.inl ⟨by rfl, ?hy17021⟩) hHeld ?hn17021
    case hy17021 => (intro wz hSw; have k0 := cell_later hSw a0; go_simp)
    try simp only [nrm, Act.put]
    refine' wpAnyH_take (i := 3) (v := _) rfl (by kernel_rfl) (by kernel_rfl) (by kernel_rfl) (fun _ _ _ h => h) (Or.inl ⟨by rfl, ?hy17022⟩) hHeld ?hn17022
    case hy17022 => (intro wz hSw; (try dsimp only at hSw); go_simp; first | done | with_reducible rfl)
    try simp only [nrm, Act.put]
    refine' wpAnyH_take (i := 4) (v := (.slice r2a zs2.length r2c)) rfl (by kernel_rfl) (by kernel_rfl) (by kernel_rfl) (fun _ _ _ h => h) (Or.inl ⟨by rfl, ?hy17023⟩) hHeld ?hn17023
    case hy17023 => (intro wz hSw; have k0 := cell_later hSw b0; go_simp)
    try simp only [nrm, Act.put]
    refine wpAnyH_ready (rs := [5]) (by kernel_rfl) (by simp) ?_
    refine AllReadyH.cons rfl (fun K hK => ?_) AllReadyH.nil
    go_simp
    refine Calls.mono (stays_any (cell_later (HX.out _ hHeld) HKB.out) (GRep.below (HX.out _ hHeld) HG1.out) (GRep.below (HX.out _ hHeld) HG2.out) (GRep.below (HX.out _ hHeld) HKV.out) hx hy) ?_; rintro e' z1 ⟨rfl, hbx⟩; rw [HSB.out]; have hK2 := Below.then hHeld hbx hHeld.size
    refine hK.out _ _ (hK2) (fun hHeld => ?_)
    clear hK K
    refine' wpAnyH_take (i := 6) (v := _) rfl (by kernel_rfl) (by kernel_rfl) (by kernel_rfl) (fun _ _ _ h => h) (Or.inl ⟨by rfl, ?hy17024⟩) hHeld ?hn17024
    case hy17024 => (intro wz hSw; (try dsimp only at hSw); go_simp; first | done | with_reducible rfl)
    try simp only [nrm, Act.put]
    refine' wpAnyH_take (i := 7) (v := undef) rfl (by kernel_rfl) (by kernel_rfl) (by kernel_rfl) (fun _ _ _ h => h) (Or.inr ⟨by rfl, rfl⟩) hHeld ?hn17025
    try simp only [nrm, Act.put]
    refine' wpAnyH_take (i := 8) (v := undef) rfl (by kernel_rfl) (by kernel_rfl) (by kernel_rfl) (fun _ _ _ h => h) (Or.inr ⟨by rfl, rfl⟩) hHeld ?hn17026
    try simp only [nrm, Act.put]
    refine' wpAnyH_take (i := 9) (v := undef) rfl (by kernel_rfl) (by kernel_rfl) (by kernel_rfl) (fun _ _ _ h => h) (Or.inr ⟨by rfl, rfl⟩) hHeld ?hn17027
    try simp only [nrm, Act.put]
    refine' wpAnyH_take (i := 10) (v := undef) rfl (by kernel_rfl) (by kernel_rfl) (by kernel_rfl) (fun _ _ _ h => h) (Or.inr ⟨by rfl, rfl⟩) hHeld ?hn17028
    try simp only [nrm, Act.put]
    refine' wpAnyH_take (i := 11) (v := undef) rfl (by kernel_rfl) (by kernel_rfl) (by kernel_rfl) (fun _ _ _ h => h) (Or.inr ⟨by rfl, rfl⟩) hHeld ?hn17029
    try simp only [nrm, Act.put]
    refine' wpAnyH_take (i := 12) (v := undef) rfl (by kernel_rfl) (by kernel_rfl) (by kernel_rfl) (fun _ _ _ h => h) (Or.inr ⟨by rfl, rfl⟩) hHeld ?hn17030
    try simp only [nrm, Act.put]
    refine' wpAnyH_take (i := 13) (v := undef) rfl (by kernel_rfl) (by kernel_rfl) (by kernel_rfl) (fun _ _ _ h => h) (Or.inr ⟨by rfl, rfl⟩) hHeld ?hn17031
    try simp only [nrm, Act.put]
    refine' wpAnyH_take (i := 14) (v := undef) rfl (by kernel_rfl) (by kernel_rfl) (by kernel_rfl) (fun _ _ _ h => h) (Or.inr ⟨by rfl, rfl⟩) hHeld ?hn17032
    try simp only [nrm, Act.put]
    refine' wpAnyH_take (i := 15) (v := undef) rfl (by kernel_rfl) (by kernel_rfl) (by kernel_rfl) (fun _ _ _ h => h) (Or.inr ⟨by rfl, rfl⟩) hHeld ?hn17033
    try simp only [nrm, Act.put]
    refine' wpAnyH_take (i := 16) (v := undef) rfl (by kernel_rfl) (by kernel_rfl) (by kernel_rfl) (fun _ _ _ h => h) (Or.inr ⟨by rfl, rfl⟩) hHeld ?hn17034
    try simp only [nrm, Act.put]
    refine' wpAnyH_take (i := 17) (v := _) rfl (by kernel_rfl) (by kernel_rfl) (by kernel_rfl) (fun _ _ _ h => h) (Or.inl ⟨by rfl, ?hy17035⟩) hHeld ?hn17035
    case hy17035 => (intro wz hSw; (try dsimp only at hSw); go_simp; first | done | with_reducible rfl)
    try simp only [nrm, Act.put]
    refine' wpAnyH_take (i := 18) (v := _) rfl (by kernel_rfl) (by kernel_rfl) (by kernel_rfl) (fun _ _ _ h => h) (Or.inl ⟨by rfl, ?hy17036⟩) hHeld ?hn17036
    case hy17036 => (intro wz hSw; (try dsimp only at hSw); go_simp; first | done | with_reducible rfl)
    try simp only [nrm, Act.put]
    refine wpAnyH_done (by kernel_rfl) ?_ _
    have HBF : Hid (Below w.heap.size w _) := (HX.out _ hHeld)
    clear hHeld a0 a1 a2 a3 b0 b1 b2 b3 hK2' hH2'
    go_wp2
    go_ret
    exact ⟨by first | rfl | (cases db <;> rfl), HBF.out⟩
  · refine wp_region_held (S := (fun wz => Below w2.heap.size w2 wz)) (by kernel_rfl) ?_
    change wpAnyH _ _ _ _ _ _ _ _ (World.drew _)
    have hHeld := (Below.refl w2.heap.size w2).drew
    refine' wpAnyH_take (i := 0) (v := (.func (.func 46) #[] #[.pointer (some kb)])) rfl (by kernel_rfl) (by kernel_rfl) (by kernel_rfl) (fun _ _ _ h => h) (Or.inl ⟨by rfl, ?hy17037⟩) hHeld ?hn17037
    case hy17037 => (intro wz hSw; have k0 := cell_later hSw hK2'; go_simp)
    try simp only [nrm, Act.put]
    refine' wpAnyH_take (i := 1) (v := _) rfl (by kernel_rfl) (by kernel_rfl) (by kernel_rfl) (fun _ _ _ h => h) (Or.inl ⟨by rfl, ?hy17038⟩) hHeld ?hn17038
    case hy17038 => (intro wz hSw; (try dsimp only at hSw); go_simp; first | done | with_reducible rfl)
    try simp only [nrm, Act.put]
    refine' wpAnyH_take (i := 2) (v := (.slice r1a zs1.length r1c)) rfl (by kernel_rfl) (by kernel_rfl) (by kernel_rfl) (fun _ _ _ h => h) (Or.inl ⟨by rfl, ?hy17039⟩) hHeld ?hn17039
    case hy17039 => (intro wz hSw; have k0 := cell_later hSw a0; go_simp)
    try simp only [nrm, Act.put]
    refine' wpAnyH_take (i := 3) (v := _) rfl (by kernel_rfl) (by kernel_rfl) (by kernel_rfl) (fun _ _ _ h => h) (Or.inl ⟨by rfl, ?hy17040⟩) hHeld ?hn17040
    case hy17040 => (intro wz hSw; (try dsimp only at hSw); go_simp; first | done | with_reducible rfl)
    try simp only [nrm, Act.put]
    refine' wpAnyH_take (i := 4) (v := (.slice r2a zs2.length r2c)) rfl (by kernel_rfl) (by kernel_rfl) (by kernel_rfl) (fun _ _ _ h => h) (Or.inl ⟨by rfl, ?hy17041⟩) hHeld ?hn17041
    case hy17041 => (intro wz hSw; have k0 := cell_later hSw b0; go_simp)
    try simp only [nrm, Act.put]
    refine wpAnyH_ready (rs := [5]) (by kernel_rfl) (by simp) ?_
    refine AllReadyH.cons rfl (fun K hK => ?_) AllReadyH.nil
    go_simp
    refine Calls.mono (stays_any (cell_later (HX.out _ hHeld) HKB.out) (GRep.below (HX.out _ hHeld) HG1.out) (GRep.below (HX.out _ hHeld) HG2.out) (GRep.below (HX.out _ hHeld) HKV.out) hx hy) ?_; rintro e' z1 ⟨rfl, hbx⟩; rw [HSB.out]; have hK2 := Below.then hHeld hbx hHeld.size
    refine hK.out _ _ (hK2) (fun hHeld => ?_)
    clear hK K
    refine' wpAnyH_take (i := 6) (v := _) rfl (by kernel_rfl) (by kernel_rfl) (by kernel_rfl) (fun _ _ _ h => h) (Or.inl ⟨by rfl, ?hy17042⟩) hHeld ?hn17042
    case hy17042 => (intro wz hSw; (try dsimp only at hSw); go_simp; first | done | with_reducible rfl)
    try simp only [nrm, Act.put]
    refine' wpAnyH_take (i := 7) (v := _) rfl (by kernel_rfl) (by kernel_rfl) (by kernel_rfl) (fun _ _ _ h => h) (Or.inl ⟨by rfl, ?hy17043⟩) hHeld ?hn17043
    case hy17043 => (intro wz hSw; (try dsimp only at hSw); go_simp; first | done | with_reducible rfl)
    try simp only [nrm, Act.put]
    refine' wpAnyH_take (i := 8) (v := (.agg #[.slice n1a n1l n1c, .slice w1a w1l w1c, .slice s1a ss1.length s1c])) rfl (by kernel_rfl) (by kernel_rfl) (by kernel_rfl) (fun _ _ _ h => h) (Or.inl ⟨by rfl, ?hy17044⟩) hHeld ?hn17044
    case hy17044 => (intro wz hSw; have k0 := cell_later hSw a1; have k1 := cell_later hSw a2; have k2 := cell_later hSw a3; go_simp)
    try simp only [nrm, Act.put]
    refine' wpAnyH_take (i := 9) (v := (.int .i64 h)) rfl (by kernel_rfl) (by kernel_rfl) (by kernel_rfl) (fun _ _ _ h => h) (Or.inl ⟨by rfl, ?hy17045⟩) hHeld ?hn17045
    case hy17045 => (intro wz hSw; have k0 := cell_later hSw hH2'; go_simp)
    try simp only [nrm, Act.put]
    refine' wpAnyH_take (i := 11) (v := _) rfl (by kernel_rfl) (by kernel_rfl) (by kernel_rfl) (fun _ _ _ h => h) (Or.inl ⟨by rfl, ?hy17046⟩) hHeld ?hn17046
    case hy17046 => (intro wz hSw; (try dsimp only at hSw); go_simp; first | done | with_reducible rfl)
    try simp only [nrm, Act.put]
    refine' wpAnyH_take (i := 12) (v := (.agg #[.slice n2a n2l n2c, .slice w2a w2l w2c, .slice s2a ss2.length s2c])) rfl (by kernel_rfl) (by kernel_rfl) (by kernel_rfl) (fun _ _ _ h => h) (Or.inl ⟨by rfl, ?hy17047⟩) hHeld ?hn17047
    case hy17047 => (intro wz hSw; have k0 := cell_later hSw b1; have k1 := cell_later hSw b2; have k2 := cell_later hSw b3; go_simp)
    try simp only [nrm, Act.put]
    refine' wpAnyH_take (i := 13) (v := (.int .i64 h)) rfl (by kernel_rfl) (by kernel_rfl) (by kernel_rfl) (fun _ _ _ h => h) (Or.inl ⟨by rfl, ?hy17048⟩) hHeld ?hn17048
    case hy17048 => (intro wz hSw; have k0 := cell_later hSw hH2'; go_simp)
    try simp only [nrm, Act.put]
    refine wpAnyH_ready (rs := [10]) (by kernel_rfl) (by simp) ?_
    refine AllReadyH.cons rfl (fun K hK => ?_) AllReadyH.nil
    go_simp
    refine Calls.mono (runTo_any h (LRep.below (HX.out _ hHeld) HE1.out) (by omega)) ?_; rintro e' z2 ⟨tx, bx', rfl, hbx, otx, -⟩; have hK2 := Below.then hHeld hbx hHeld.size; have GX := otx.rep; clear otx
    refine hK.out _ _ (hK2) (fun hHeld => ?_)
    clear hK K
    refine wpAnyH_ready (rs := [14]) (by kernel_rfl) (by simp) ?_
    refine AllReadyH.cons rfl (fun K hK => ?_) AllReadyH.nil
    go_simp
    refine Calls.mono (runTo_any h (LRep.below (HX.out _ hHeld) HE2.out) (by omega)) ?_; rintro e' z3 ⟨ty, by', rfl, hbx, oty, -⟩; have hK2 := Below.then hHeld hbx hHeld.size; have GY := oty.rep; replace GX := GX.below hbx; clear oty; obtain ⟨txa, txc, rfl, -⟩ := id GX; obtain ⟨tya, tyc, rfl, -⟩ := id GY
    refine hK.out _ _ (hK2) (fun hHeld => ?_)
    clear hK K
    refine wpAnyH_ready (rs := [15]) (by kernel_rfl) (by simp) ?_
    refine AllReadyH.cons rfl (fun K hK => ?_) AllReadyH.nil
    go_simp
    refine Calls.mono (sliceEqI_any GX GY) ?_; rintro e' z4 ⟨rfl, hbx⟩; rw [HDB.out]; have hK2 := Below.then hHeld hbx hHeld.size
    refine hK.out _ _ (hK2) (fun hHeld => ?_)
    clear hK K
    refine' wpAnyH_take (i := 16) (v := _) rfl (by kernel_rfl) (by kernel_rfl) (by kernel_rfl) (fun _ _ _ h => h) (Or.inl ⟨by rfl, ?hy17049⟩) hHeld ?hn17049
    case hy17049 => (intro wz hSw; (try dsimp only at hSw); go_simp; first | done | with_reducible rfl)
    try simp only [nrm, Act.put]
    refine' wpAnyH_take (i := 17) (v := _) rfl (by kernel_rfl) (by kernel_rfl) (by kernel_rfl) (fun _ _ _ h => h) (Or.inl ⟨by rfl, ?hy17050⟩) hHeld ?hn17050
    case hy17050 => (intro wz hSw; (try dsimp only at hSw); go_simp; first | done | with_reducible rfl)
    try simp only [nrm, Act.put]
    refine' wpAnyH_take (i := 18) (v := _) rfl (by kernel_rfl) (by kernel_rfl) (by kernel_rfl) (fun _ _ _ h => h) (Or.inl ⟨by rfl, ?hy17051⟩) hHeld ?hn17051
    case hy17051 => (intro wz hSw; (try dsimp only at hSw); go_simp; first | done | with_reducible rfl)
    try simp only [nrm, Act.put]
    refine wpAnyH_done (by kernel_rfl) ?_ _
    have HBF : Hid (Below w.heap.size w _) := (HX.out _ hHeld)
    clear hHeld a0 a1 a2 a3 b0 b1 b2 b3 hK2' hH2' GX GY
    go_wp2
    go_ret
    exact ⟨by first | rfl | (cases db <;> rfl), HBF.out⟩

end Go.Proofs.YthcgdhlemieboaaGreat
