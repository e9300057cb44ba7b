/- slices.Equal of what is set; what SwayOf asks of two rows. -/
import Derived.Test.YthcgdhlemieboaaGreatDoorSnLeg
import Derived.Test.YthcgdhlemieboaaGreatDoorSnLeh
import Derived.Test.YthcgdhlemieboaaGreatDoorSnLeb
import Derived.Deep.RegionHeld3
import Derived.Deep.DrawnRows
namespace Go.Proofs.YthcgdhlemieboaaGreatDoor
open Go.RowKit
set_option linter.unusedSimpArgs false
set_option linter.unusedVariables false
attribute [local go_sem] World.cell?_alloc_some

set_option maxHeartbeats 4000000 in
theorem sliceEqW_any {v v' : Value} {xs ys : List (Int × Int)} {w : World} (h : LRep w v xs) (h' : LRep w v' ys) :
    Calls Tryz.prog 33 #[v, v'] w fun e w' => e = .returned (.bool (decide (xs = ys))) ∧ Below w.heap.size w w' := by
  obtain ⟨a, c, rfl, hlc, hcm, hcell⟩ := h
  obtain ⟨a', c', rfl, hlc', hcm', hcell'⟩ := h'
  have hkm : (xs.length : Int) ≤ 9223372036854775807 := by unfold maxLen at hcm; omega
  have hkm' : (ys.length : Int) ≤ 9223372036854775807 := by unfold maxLen at hcm'; omega
  by_cases hlen : xs.length = ys.length
  case neg =>
    have HD : Hid (decide (xs = ys) = false) := decide_eq_false (fun h => hlen (by rw [h]))
    have hl2 : ¬ (xs.length : Int) = (ys.length : Int) := by omega
    clear hcell hcell'
    go_enter Tryz.func33, Tryz.ntmps33
    go_wp2
    go_ret
    exact ⟨by rw [HD.out]; rfl, Below.refl _ _⟩
  have HC : Hid (∀ i (hi : i < xs.length), ∃ b off b' off', (a = some ⟨b, off, none⟩ ∧ w.cell? ⟨b, off + i * 2, none⟩ = some (.int .i64 (xs.getD i (0, 0)).1) ∧ w.cell? ⟨b, off + i * 2 + 1, none⟩ = some (.int .i64 (xs.getD i (0, 0)).2)) ∧ (a' = some ⟨b', off', none⟩ ∧ w.cell? ⟨b', off' + i * 2, none⟩ = some (.int .i64 (ys.getD i (0, 0)).1) ∧ w.cell? ⟨b', off' + i * 2 + 1, none⟩ = some (.int .i64 (ys.getD i (0, 0)).2))) := (show ∀ i (hi : i < xs.length), _ from fun i hi => by
    obtain ⟨b, off, ha, h0, h1⟩ := hcell i (by omega)
    obtain ⟨b', off', ha', h0', h1'⟩ := hcell' i (by omega)
    have ex : xs.getD i (0, 0) = xs[i] := by rw [List.getD_eq_getElem?_getD, List.getElem?_eq_getElem (by omega), Option.getD_some]
    have ey : ys.getD i (0, 0) = ys[i] := by rw [List.getD_eq_getElem?_getD, List.getElem?_eq_getElem (by omega), Option.getD_some]
    rw [ex, ey]
    exact ⟨b, off, b', off', ⟨ha, h0, h1⟩, ⟨ha', h0', h1'⟩⟩)
  have HLN : Hid (xs.length = ys.length) := hlen
  have hl2 : ((ys.length : Nat) : Int) = ((xs.length : Nat) : Int) := by omega
  clear hcell hcell' hlen
  go_enter Tryz.func33, Tryz.ntmps33
  go_wp2_with fail
  clear hl2
  go_loopw [13] (fun j wr => ∃ (i : Nat), i ≤ xs.length ∧ j = .int .i64 i ∧ Below w.heap.size w wr ∧ Hid (∀ q, q < i → xs.getD q (0, 0) = ys.getD q (0, 0))) (fun j _ => xs.length - (intOf j).toNat)
  case atStart => exact ⟨0, by omega, rfl, Below.refl _ _, (show ∀ q, q < 0 → _ from fun q hq => by omega)⟩
  case round =>
    obtain ⟨i, hi, rfl, hbr, HQ⟩ := hrel
    have HBR : Hid (Below w.heap.size w wr) := hbr
    clear hbr
    by_cases hlt : i < xs.length
    · obtain ⟨b, off, b', off', ⟨rfl, k0, k1⟩, rfl, m0, m1⟩ := HC.out i hlt
      have i1' : (i : Int) < (xs.length : Int) := by omega
      have i2' : (i : Int) < (ys.length : Int) := by have := HLN.out; omega
      obtain ⟨⟨x, x'⟩, hxx⟩ : ∃ x, xs.getD i (0, 0) = x := ⟨_, rfl⟩
      obtain ⟨⟨y, y'⟩, hyy⟩ : ∃ y, ys.getD i (0, 0) = y := ⟨_, rfl⟩
      rw [hxx] at k0 k1
      rw [hyy] at m0 m1
      dsimp only at k0 k1 m0 m1
      have HXX : Hid _ := hxx
      have HYY : Hid _ := hyy
      clear hxx hyy
      by_cases hxy : x = y ∧ x' = y'
      · obtain ⟨rfl, rfl⟩ := hxy
        go_wp2_with fail
        refine wp_region_held (S := (fun wz => Below w.heap.size w wz)) (by kernel_rfl) ?_
        change wpAnyH _ _ _ _ _ _ _ _ (World.drew _)
        have hHeld := HBR.out.drew
        refine' wpAnyH_take (i := 0) (v := _) rfl (by kernel_rfl) (by kernel_rfl) (by kernel_rfl) (fun _ _ _ h => h) (Or.inl ⟨by rfl, ?hy17201⟩) hHeld ?hn17201
        case hy17201 => (intro wz hSw; (try dsimp only at hSw); go_simp; first | done | with_reducible rfl)
        try simp only [nrm, Act.put]
        refine' wpAnyH_take (i := 1) (v := _) rfl (by kernel_rfl) (by kernel_rfl) (by kernel_rfl) (fun _ _ _ h => h) (Or.inl ⟨by rfl, ?hy17202⟩) hHeld ?hn17202
        case hy17202 => (intro wz hSw; (try dsimp only at hSw); go_simp; first | done | with_reducible rfl)
        try simp only [nrm, Act.put]
        refine' wpAnyH_take (i := 2) (v := _) rfl (by kernel_rfl) (by kernel_rfl) (by kernel_rfl) (fun _ _ _ h => h) (Or.inl ⟨by rfl, ?hy17203⟩) hHeld ?hn17203
        case hy17203 => (intro wz hSw; (try dsimp only at hSw); go_simp; first | done | with_reducible rfl)
        try simp only [nrm, Act.put]
        refine' wpAnyH_take (i := 3) (v := (.agg #[.int .i64 x, .int .i64 x'])) rfl (by kernel_rfl) (by kernel_rfl) (by kernel_rfl) (fun _ _ _ h => h) (Or.inl ⟨by rfl, ?hy17204⟩) hHeld ?hn17204
        case hy17204 => (intro wz hSw; have k0 := cell_later hSw k0; have k1 := cell_later hSw k1; go_simp)
        try simp only [nrm, Act.put]
        refine' wpAnyH_take (i := 4) (v := _) rfl (by kernel_rfl) (by kernel_rfl) (by kernel_rfl) (fun _ _ _ h => h) (Or.inl ⟨by rfl, ?hy17205⟩) hHeld ?hn17205
        case hy17205 => (intro wz hSw; (try dsimp only at hSw); go_simp; first | done | with_reducible rfl)
        try simp only [nrm, Act.put]
        refine' wpAnyH_take (i := 5) (v := _) rfl (by kernel_rfl) (by kernel_rfl) (by kernel_rfl) (fun _ _ _ h => h) (Or.inl ⟨by rfl, ?hy17206⟩) hHeld ?hn17206
        case hy17206 => (intro wz hSw; (try dsimp only at hSw); go_simp; first | done | with_reducible rfl)
        try simp only [nrm, Act.put]
        refine' wpAnyH_take (i := 6) (v := _) rfl (by kernel_rfl) (by kernel_rfl) (by kernel_rfl) (fun _ _ _ h => h) (Or.inl ⟨by rfl, ?hy17207⟩) hHeld ?hn17207
        case hy17207 => (intro wz hSw; (try dsimp only at hSw); go_simp; first | done | with_reducible rfl)
        try simp only [nrm, Act.put]
        refine' wpAnyH_take (i := 7) (v := (.agg #[.int .i64 x, .int .i64 x'])) rfl (by kernel_rfl) (by kernel_rfl) (by kernel_rfl) (fun _ _ _ h => h) (Or.inl ⟨by rfl, ?hy17208⟩) hHeld ?hn17208
        case hy17208 => (intro wz hSw; have k0 := cell_later hSw m0; have k1 := cell_later hSw m1; go_simp)
        try simp only [nrm, Act.put]
        refine' wpAnyH_take (i := 8) (v := (.bool false)) rfl (by kernel_rfl) (by kernel_rfl) (by kernel_rfl) (fun _ _ _ h => h) (Or.inl ⟨by rfl, ?hy17209⟩) hHeld ?hn17209
        case hy17209 => (intro wz hSw; go_simp; first | done | (simp; done))
        try simp only [nrm, Act.put]
        refine wpAnyH_done (by kernel_rfl) ?_ _
        have BD : Hid (Below w.heap.size w (World.drew wr)) := HBR.out.drew
        clear hHeld k0 k1 m0 m1
        go_wp2
        exact ⟨⟨i + 1, by omega, by simp, BD.out, (show ∀ q, q < i + 1 → _ from fun q hq => by
          by_cases e : q = i
          · subst e; rw [HXX.out, HYY.out]
          · exact HQ.out q (by omega))⟩, by simp [intOf]; omega⟩
      · go_wp2_with fail
        refine wp_region_held (S := (fun wz => Below w.heap.size w wz)) (by kernel_rfl) ?_
        change wpAnyH _ _ _ _ _ _ _ _ (World.drew _)
        have hHeld := HBR.out.drew
        refine' wpAnyH_take (i := 0) (v := _) rfl (by kernel_rfl) (by kernel_rfl) (by kernel_rfl) (fun _ _ _ h => h) (Or.inl ⟨by rfl, ?hy17210⟩) hHeld ?hn17210
        case hy17210 => (intro wz hSw; (try dsimp only at hSw); go_simp; first | done | with_reducible rfl)
        try simp only [nrm, Act.put]
        refine' wpAnyH_take (i := 1) (v := _) rfl (by kernel_rfl) (by kernel_rfl) (by kernel_rfl) (fun _ _ _ h => h) (Or.inl ⟨by rfl, ?hy17211⟩) hHeld ?hn17211
        case hy17211 => (intro wz hSw; (try dsimp only at hSw); go_simp; first | done | with_reducible rfl)
        try simp only [nrm, Act.put]
        refine' wpAnyH_take (i := 2) (v := _) rfl (by kernel_rfl) (by kernel_rfl) (by kernel_rfl) (fun _ _ _ h => h) (Or.inl ⟨by rfl, ?hy17212⟩) hHeld ?hn17212
        case hy17212 => (intro wz hSw; (try dsimp only at hSw); go_simp; first | done | with_reducible rfl)
        try simp only [nrm, Act.put]
        refine' wpAnyH_take (i := 3) (v := (.agg #[.int .i64 x, .int .i64 x'])) rfl (by kernel_rfl) (by kernel_rfl) (by kernel_rfl) (fun _ _ _ h => h) (Or.inl ⟨by rfl, ?hy17213⟩) hHeld ?hn17213
        case hy17213 => (intro wz hSw; have k0 := cell_later hSw k0; have k1 := cell_later hSw k1; go_simp)
        try simp only [nrm, Act.put]
        refine' wpAnyH_take (i := 4) (v := _) rfl (by kernel_rfl) (by kernel_rfl) (by kernel_rfl) (fun _ _ _ h => h) (Or.inl ⟨by rfl, ?hy17214⟩) hHeld ?hn17214
        case hy17214 => (intro wz hSw; (try dsimp only at hSw); go_simp; first | done | with_reducible rfl)
        try simp only [nrm, Act.put]
        refine' wpAnyH_take (i := 5) (v := _) rfl (by kernel_rfl) (by kernel_rfl) (by kernel_rfl) (fun _ _ _ h => h) (Or.inl ⟨by rfl, ?hy17215⟩) hHeld ?hn17215
        case hy17215 => (intro wz hSw; (try dsimp only at hSw); go_simp; first | done | with_reducible rfl)
        try simp only [nrm, Act.put]
        refine' wpAnyH_take (i := 6) (v := _) rfl (by kernel_rfl) (by kernel_rfl) (by kernel_rfl) (fun _ _ _ h => h) (Or.inl ⟨by rfl, ?hy17216⟩) hHeld ?hn17216
        case hy17216 => (intro wz hSw; (try dsimp only at hSw); go_simp; first | done | with_reducible rfl)
        try simp only [nrm, Act.put]
        refine' wpAnyH_take (i := 7) (v := (.agg #[.int .i64 y, .int .i64 y'])) rfl (by kernel_rfl) (by kernel_rfl) (by kernel_rfl) (fun _ _ _ h => h) (Or.inl ⟨by rfl, ?hy17217⟩) hHeld ?hn17217
        case hy17217 => (intro wz hSw; have k0 := cell_later hSw m0; have k1 := cell_later hSw m1; go_simp)
        try simp only [nrm, Act.put]
        refine' wpAnyH_take (i := 8) (v := (.bool true)) rfl (by kernel_rfl) (by kernel_rfl) (by kernel_rfl) (fun _ _ _ h => h) (Or.inl ⟨by rfl, ?hy17218⟩) hHeld ?hn17218
        case hy17218 => (intro wz hSw; go_simp; first | done | (simp [hxy]; done) | simpa using hxy)
        try simp only [nrm, Act.put]
        refine wpAnyH_done (by kernel_rfl) ?_ _
        have BD : Hid (Below w.heap.size w (World.drew wr)) := HBR.out.drew
        have HNO : Hid (decide (xs = ys) = false) := decide_eq_false (fun h => hxy (by have e := HXX.out; rw [h, HYY.out] at e; cases e; exact ⟨rfl, rfl⟩))
        clear hHeld k0 k1 m0 m1
        go_wp2
        go_ret
        exact ⟨by rw [HNO.out]; rfl, BD.out⟩
    · have hie : i = xs.length := by omega
      subst hie
      have HYES : Hid (decide (xs = ys) = true) := decide_eq_true (List.ext_getElem HLN.out fun q h1 h2 => by
        have := HQ.out q h1
        rwa [List.getD_eq_getElem?_getD, List.getD_eq_getElem?_getD, List.getElem?_eq_getElem h1, List.getElem?_eq_getElem h2, Option.getD_some, Option.getD_some] at this)
      go_wp2
      go_ret
      exact ⟨by rw [HYES.out]; rfl, HBR.out⟩

set_option maxHeartbeats 8000000 in
set_option maxRecDepth 20000 in
theorem holdsS_any {r1a n1a w1a s1a r2a n2a w2a s2a : Option Addr} {r1c n1l n1c s1l w1c s1c r2c n2l n2c s2l w2c s2c : Nat} {zs1 zs2 : List Int} {ws1 ws2 : List (Int × Int)} {ks : List Bool} {kv : Value} {bK bH kb : Addr} {w : World}
    (hK : w.cell? bK = some (.func (.func 51) #[] #[.pointer (some kb)])) (hH : w.cell? bH = some kv) (hkb : w.cell? kb = some kv) (hkv : GRep Value.bool w kv ks) (g1 : GRep (Value.int .i64) w (.slice r1a zs1.length r1c) zs1) (g2 : GRep (Value.int .i64) w (.slice r2a zs2.length r2c) zs2) (e1 : LRep w (.slice w1a ws1.length w1c) ws1) (e2 : LRep w (.slice w2a ws2.length w2c) ws2)
    (hx : ks.length ≤ zs1.length) (hy : ks.length ≤ zs2.length) (l1 : ws1.length ≤ 8) (l2 : ws2.length ≤ 8) :
    Calls Tryz.prog 32 #[.agg #[.slice r1a zs1.length r1c, .slice n1a n1l n1c, .slice w1a ws1.length w1c, .slice s1a s1l s1c], .agg #[.slice r2a zs2.length r2c, .slice n2a n2l n2c, .slice w2a ws2.length w2c, .slice s2a s2l s2c], .pointer (some bK), .pointer (some bH)] w fun e w' => e = .returned (.bool (sameB ks zs1 zs2 && !decide (setV ks ws1 = setV ks ws2))) ∧ Below w.heap.size w w' := by
  have A2 : Below w.heap.size w ((w.alloc (.cells #[.slice r1a zs1.length r1c, .slice n1a n1l n1c, .slice w1a ws1.length w1c, .slice s1a s1l s1c] 51)).alloc (.cells #[.slice r2a zs2.length r2c, .slice n2a n2l n2c, .slice w2a ws2.length w2c, .slice s2a s2l s2c] 51)) := ((Below.refl _ _).alloc (Nat.le_refl _) _).alloc (by simp) _
  obtain ⟨w2, hw2⟩ : ∃ W, (w.alloc (.cells #[.slice r1a zs1.length r1c, .slice n1a n1l n1c, .slice w1a ws1.length w1c, .slice s1a s1l s1c] 51)).alloc (.cells #[.slice r2a zs2.length r2c, .slice n2a n2l n2c, .slice w2a ws2.length w2c, .slice s2a s2l s2c] 51) = W := ⟨_, rfl⟩
  have c1 : w2.cell? ⟨w.heap.size, 0, none⟩ = some (.slice r1a zs1.length r1c) ∧ w2.cell? ⟨w.heap.size, 1, none⟩ = some (.slice n1a n1l n1c) ∧ w2.cell? ⟨w.heap.size, 2, none⟩ = some (.slice w1a ws1.length w1c) ∧ w2.cell? ⟨w.heap.size, 3, none⟩ = some (.slice s1a s1l s1c) := by rw [← hw2]; refine ⟨?_, ?_, ?_, ?_⟩ <;> simp
  have c2 : w2.cell? ⟨w.heap.size + 1, 0, none⟩ = some (.slice r2a zs2.length r2c) ∧ w2.cell? ⟨w.heap.size + 1, 1, none⟩ = some (.slice n2a n2l n2c) ∧ w2.cell? ⟨w.heap.size + 1, 2, none⟩ = some (.slice w2a ws2.length w2c) ∧ w2.cell? ⟨w.heap.size + 1, 3, none⟩ = some (.slice s2a s2l s2c) := by rw [← hw2]; refine ⟨?_, ?_, ?_, ?_⟩ <;> simp
  rw [hw2] at A2
  have HX : Hid (∀ wz, Below w2.heap.size w2 wz → Below w.heap.size w wz) := (show ∀ wz, _ from fun wz hb => Below.then A2 hb A2.size)
  have HW2 : Hid _ := hw2
  obtain ⟨ka, kc, rfl, -⟩ := id hkv
  have HKB : Hid _ := hkb
  have HKV : Hid _ := hkv
  have HG1 : Hid _ := g1
  have HG2 : Hid _ := g2
  have HE1 : Hid _ := e1
  have HE2 : Hid _ := e2
  obtain ⟨a0, a1, a2, a3⟩ := c1
  obtain ⟨b0, b1, b2, b3⟩ := c2
  have hK2' := cell_later A2 hK
  have hH2' := cell_later A2 hH
  clear hw2 A2 hkb hkv g1 g2 e1 e2 hK hH
  obtain ⟨sb, hsb⟩ : ∃ x, sameB ks zs1 zs2 = x := ⟨_, rfl⟩
  have HSB : Hid _ := hsb
  obtain ⟨db, hdb⟩ : ∃ x, decide (setV ks ws1 = setV ks ws2) = x := ⟨_, rfl⟩
  have HDB : Hid _ := hdb
  rw [hsb, hdb]
  clear hsb hdb
  go_enter Tryz.func32, Tryz.ntmps32
  go_wp2_with fail
  rw [HW2.out]
  clear HW2
  cases sb
  · refine wp_region_held (S := (fun wz => Below w2.heap.size w2 wz)) (by kernel_rfl) ?_
    change wpAnyH _ _ _ _ _ _ _ _ (World.drew _)
    have hHeld := (Below.refl w2.heap.size w2).drew
    refine' wpAnyH_take (i := 0) (v := (.func (.func 51) #[] #[.pointer (some kb)])) rfl (by kernel_rfl) (by kernel_rfl) (by kernel_rfl) (fun _ _ _ h => h) (Or.inl ⟨by rfl, ?hy17219⟩) hHeld ?hn17219
    case hy17219 => (intro wz hSw; have k0 := cell_later hSw hK2'; go_simp)
    try simp only [nrm, Act.put]
    refine' wpAnyH_take (i := 1) (v := _) rfl (by kernel_rfl) (by kernel_rfl) (by kernel_rfl) (fun _ _ _ h => h) (Or.inl ⟨by rfl, ?hy17220⟩) hHeld ?hn17220
    case hy17220 => (intro wz hSw; (try dsimp only at hSw); go_simp; first | done | with_reducible rfl)
    try simp only [nrm, Act.put]
    refine' wpAnyH_take (i := 2) (v := (.slice r1a zs1.length r1c)) rfl (by kernel_rfl) (by kernel_rfl) (by kernel_rfl) (fun _ _ _ h => h) (Or.inl ⟨by rfl, ?hy17221⟩) hHeld ?hn17221
    case hy17221 => (intro wz hSw; have k0 := cell_later hSw a0; go_simp)
    try simp only [nrm, Act.put]
    refine' wpAnyH_take (i := 3) (v := _) rfl (by kernel_rfl) (by kernel_rfl) (by kernel_rfl) (fun _ _ _ h => h) (Or.inl ⟨by rfl, ?hy17222⟩) hHeld ?hn17222
    case hy17222 => (intro wz hSw; (try dsimp only at hSw); go_simp; first | done | with_reducible rfl)
    try simp only [nrm, Act.put]
    refine' wpAnyH_take (i := 4) (v := (.slice r2a zs2.length r2c)) rfl (by kernel_rfl) (by kernel_rfl) (by kernel_rfl) (fun _ _ _ h => h) (Or.inl ⟨by rfl, ?hy17223⟩) hHeld ?hn17223
    case hy17223 => (intro wz hSw; have k0 := cell_later hSw b0; go_simp)
    try simp only [nrm, Act.put]
    refine wpAnyH_ready (rs := [5]) (by kernel_rfl) (by simp) ?_
    refine AllReadyH.cons rfl (fun K hK => ?_) AllReadyH.nil
    go_simp
    refine Calls.mono (stays_any (cell_later (HX.out _ hHeld) HKB.out) (GRep.below (HX.out _ hHeld) HG1.out) (GRep.below (HX.out _ hHeld) HG2.out) (GRep.below (HX.out _ hHeld) HKV.out) hx hy) ?_; rintro e' z1 ⟨rfl, hbx⟩; rw [HSB.out]; have hK2 := Below.then hHeld hbx hHeld.size
    refine hK.out _ _ (hK2) (fun hHeld => ?_)
    clear hK K
    refine' wpAnyH_take (i := 6) (v := _) rfl (by kernel_rfl) (by kernel_rfl) (by kernel_rfl) (fun _ _ _ h => h) (Or.inl ⟨by rfl, ?hy17224⟩) hHeld ?hn17224
    case hy17224 => (intro wz hSw; (try dsimp only at hSw); go_simp; first | done | with_reducible rfl)
    try simp only [nrm, Act.put]
    refine' wpAnyH_take (i := 7) (v := undef) rfl (by kernel_rfl) (by kernel_rfl) (by kernel_rfl) (fun _ _ _ h => h) (Or.inr ⟨by rfl, rfl⟩) hHeld ?hn17225
    try simp only [nrm, Act.put]
    refine' wpAnyH_take (i := 8) (v := undef) rfl (by kernel_rfl) (by kernel_rfl) (by kernel_rfl) (fun _ _ _ h => h) (Or.inr ⟨by rfl, rfl⟩) hHeld ?hn17226
    try simp only [nrm, Act.put]
    refine' wpAnyH_take (i := 9) (v := undef) rfl (by kernel_rfl) (by kernel_rfl) (by kernel_rfl) (fun _ _ _ h => h) (Or.inr ⟨by rfl, rfl⟩) hHeld ?hn17227
    try simp only [nrm, Act.put]
    refine' wpAnyH_take (i := 10) (v := undef) rfl (by kernel_rfl) (by kernel_rfl) (by kernel_rfl) (fun _ _ _ h => h) (Or.inr ⟨by rfl, rfl⟩) hHeld ?hn17228
    try simp only [nrm, Act.put]
    refine' wpAnyH_take (i := 11) (v := undef) rfl (by kernel_rfl) (by kernel_rfl) (by kernel_rfl) (fun _ _ _ h => h) (Or.inr ⟨by rfl, rfl⟩) hHeld ?hn17229
    try simp only [nrm, Act.put]
    refine' wpAnyH_take (i := 12) (v := undef) rfl (by kernel_rfl) (by kernel_rfl) (by kernel_rfl) (fun _ _ _ h => h) (Or.inr ⟨by rfl, rfl⟩) hHeld ?hn17230
    try simp only [nrm, Act.put]
    refine' wpAnyH_take (i := 13) (v := undef) rfl (by kernel_rfl) (by kernel_rfl) (by kernel_rfl) (fun _ _ _ h => h) (Or.inr ⟨by rfl, rfl⟩) hHeld ?hn17231
    try simp only [nrm, Act.put]
    refine' wpAnyH_take (i := 14) (v := undef) rfl (by kernel_rfl) (by kernel_rfl) (by kernel_rfl) (fun _ _ _ h => h) (Or.inr ⟨by rfl, rfl⟩) hHeld ?hn17232
    try simp only [nrm, Act.put]
    refine' wpAnyH_take (i := 15) (v := undef) rfl (by kernel_rfl) (by kernel_rfl) (by kernel_rfl) (fun _ _ _ h => h) (Or.inr ⟨by rfl, rfl⟩) hHeld ?hn17233
    try simp only [nrm, Act.put]
    refine' wpAnyH_take (i := 16) (v := undef) rfl (by kernel_rfl) (by kernel_rfl) (by kernel_rfl) (fun _ _ _ h => h) (Or.inr ⟨by rfl, rfl⟩) hHeld ?hn17234
    try simp only [nrm, Act.put]
    refine' wpAnyH_take (i := 17) (v := _) rfl (by kernel_rfl) (by kernel_rfl) (by kernel_rfl) (fun _ _ _ h => h) (Or.inl ⟨by rfl, ?hy17235⟩) hHeld ?hn17235
    case hy17235 => (intro wz hSw; (try dsimp only at hSw); go_simp; first | done | with_reducible rfl)
    try simp only [nrm, Act.put]
    refine' wpAnyH_take (i := 18) (v := _) rfl (by kernel_rfl) (by kernel_rfl) (by kernel_rfl) (fun _ _ _ h => h) (Or.inl ⟨by rfl, ?hy17236⟩) hHeld ?hn17236
    case hy17236 => (intro wz hSw; (try dsimp only at hSw); go_simp; first | done | with_reducible rfl)
    try simp only [nrm, Act.put]
    refine wpAnyH_done (by kernel_rfl) ?_ _
    have HBF : Hid (Below w.heap.size w _) := (HX.out _ hHeld)
    clear hHeld a0 a1 a2 a3 b0 b1 b2 b3 hK2' hH2'
    go_wp2
    go_ret
    exact ⟨by first | rfl | (cases db <;> rfl), HBF.out⟩
  · refine wp_region_held (S := (fun wz => Below w2.heap.size w2 wz)) (by kernel_rfl) ?_
    change wpAnyH _ _ _ _ _ _ _ _ (World.drew _)
    have hHeld := (Below.refl w2.heap.size w2).drew
    refine' wpAnyH_take (i := 0) (v := (.func (.func 51) #[] #[.pointer (some kb)])) rfl (by kernel_rfl) (by kernel_rfl) (by kernel_rfl) (fun _ _ _ h => h) (Or.inl ⟨by rfl, ?hy17237⟩) hHeld ?hn17237
    case hy17237 => (intro wz hSw; have k0 := cell_later hSw hK2'; go_simp)
    try simp only [nrm, Act.put]
    refine' wpAnyH_take (i := 1) (v := _) rfl (by kernel_rfl) (by kernel_rfl) (by kernel_rfl) (fun _ _ _ h => h) (Or.inl ⟨by rfl, ?hy17238⟩) hHeld ?hn17238
    case hy17238 => (intro wz hSw; (try dsimp only at hSw); go_simp; first | done | with_reducible rfl)
    try simp only [nrm, Act.put]
    refine' wpAnyH_take (i := 2) (v := (.slice r1a zs1.length r1c)) rfl (by kernel_rfl) (by kernel_rfl) (by kernel_rfl) (fun _ _ _ h => h) (Or.inl ⟨by rfl, ?hy17239⟩) hHeld ?hn17239
    case hy17239 => (intro wz hSw; have k0 := cell_later hSw a0; go_simp)
    try simp only [nrm, Act.put]
    refine' wpAnyH_take (i := 3) (v := _) rfl (by kernel_rfl) (by kernel_rfl) (by kernel_rfl) (fun _ _ _ h => h) (Or.inl ⟨by rfl, ?hy17240⟩) hHeld ?hn17240
    case hy17240 => (intro wz hSw; (try dsimp only at hSw); go_simp; first | done | with_reducible rfl)
    try simp only [nrm, Act.put]
    refine' wpAnyH_take (i := 4) (v := (.slice r2a zs2.length r2c)) rfl (by kernel_rfl) (by kernel_rfl) (by kernel_rfl) (fun _ _ _ h => h) (Or.inl ⟨by rfl, ?hy17241⟩) hHeld ?hn17241
    case hy17241 => (intro wz hSw; have k0 := cell_later hSw b0; go_simp)
    try simp only [nrm, Act.put]
    refine wpAnyH_ready (rs := [5]) (by kernel_rfl) (by simp) ?_
    refine AllReadyH.cons rfl (fun K hK => ?_) AllReadyH.nil
    go_simp
    refine Calls.mono (stays_any (cell_later (HX.out _ hHeld) HKB.out) (GRep.below (HX.out _ hHeld) HG1.out) (GRep.below (HX.out _ hHeld) HG2.out) (GRep.below (HX.out _ hHeld) HKV.out) hx hy) ?_; rintro e' z1 ⟨rfl, hbx⟩; rw [HSB.out]; have hK2 := Below.then hHeld hbx hHeld.size
    refine hK.out _ _ (hK2) (fun hHeld => ?_)
    clear hK K
    refine' wpAnyH_take (i := 6) (v := _) rfl (by kernel_rfl) (by kernel_rfl) (by kernel_rfl) (fun _ _ _ h => h) (Or.inl ⟨by rfl, ?hy17242⟩) hHeld ?hn17242
    case hy17242 => (intro wz hSw; (try dsimp only at hSw); go_simp; first | done | with_reducible rfl)
    try simp only [nrm, Act.put]
    refine' wpAnyH_take (i := 7) (v := _) rfl (by kernel_rfl) (by kernel_rfl) (by kernel_rfl) (fun _ _ _ h => h) (Or.inl ⟨by rfl, ?hy17243⟩) hHeld ?hn17243
    case hy17243 => (intro wz hSw; (try dsimp only at hSw); go_simp; first | done | with_reducible rfl)
    try simp only [nrm, Act.put]
    refine' wpAnyH_take (i := 8) (v := (.agg #[.slice n1a n1l n1c, .slice w1a ws1.length w1c, .slice s1a s1l s1c])) rfl (by kernel_rfl) (by kernel_rfl) (by kernel_rfl) (fun _ _ _ h => h) (Or.inl ⟨by rfl, ?hy17244⟩) hHeld ?hn17244
    case hy17244 => (intro wz hSw; have k0 := cell_later hSw a1; have k1 := cell_later hSw a2; have k2 := cell_later hSw a3; go_simp)
    try simp only [nrm, Act.put]
    refine' wpAnyH_take (i := 9) (v := (.slice ka ks.length kc)) rfl (by kernel_rfl) (by kernel_rfl) (by kernel_rfl) (fun _ _ _ h => h) (Or.inl ⟨by rfl, ?hy17245⟩) hHeld ?hn17245
    case hy17245 => (intro wz hSw; have k0 := cell_later hSw hH2'; go_simp)
    try simp only [nrm, Act.put]
    refine' wpAnyH_take (i := 11) (v := _) rfl (by kernel_rfl) (by kernel_rfl) (by kernel_rfl) (fun _ _ _ h => h) (Or.inl ⟨by rfl, ?hy17246⟩) hHeld ?hn17246
    case hy17246 => (intro wz hSw; (try dsimp only at hSw); go_simp; first | done | with_reducible rfl)
    try simp only [nrm, Act.put]
    refine' wpAnyH_take (i := 12) (v := (.agg #[.slice n2a n2l n2c, .slice w2a ws2.length w2c, .slice s2a s2l s2c])) rfl (by kernel_rfl) (by kernel_rfl) (by kernel_rfl) (fun _ _ _ h => h) (Or.inl ⟨by rfl, ?hy17247⟩) hHeld ?hn17247
    case hy17247 => (intro wz hSw; have k0 := cell_later hSw b1; have k1 := cell_later hSw b2; have k2 := cell_later hSw b3; go_simp)
    try simp only [nrm, Act.put]
    refine' wpAnyH_take (i := 13) (v := (.slice ka ks.length kc)) rfl (by kernel_rfl) (by kernel_rfl) (by kernel_rfl) (fun _ _ _ h => h) (Or.inl ⟨by rfl, ?hy17248⟩) hHeld ?hn17248
    case hy17248 => (intro wz hSw; have k0 := cell_later hSw hH2'; go_simp)
    try simp only [nrm, Act.put]
    refine wpAnyH_ready (rs := [10]) (by kernel_rfl) (by simp) ?_
    refine AllReadyH.cons rfl (fun K hK => ?_) AllReadyH.nil
    go_simp
    refine Calls.mono (runSets_any (LRep.below (HX.out _ hHeld) HE1.out) (GRep.below (HX.out _ hHeld) HKV.out) (by omega)) ?_; rintro e' z2 ⟨tx, bx', rfl, hbx, otx, -⟩; have hK2 := Below.then hHeld hbx hHeld.size; have GX := otx.rep; clear otx
    refine hK.out _ _ (hK2) (fun hHeld => ?_)
    clear hK K
    refine wpAnyH_ready (rs := [14]) (by kernel_rfl) (by simp) ?_
    refine AllReadyH.cons rfl (fun K hK => ?_) AllReadyH.nil
    go_simp
    refine Calls.mono (runSets_any (LRep.below (HX.out _ hHeld) HE2.out) (GRep.below (HX.out _ hHeld) HKV.out) (by omega)) ?_; rintro e' z3 ⟨ty, by', rfl, hbx, oty, -⟩; have hK2 := Below.then hHeld hbx hHeld.size; have GY := oty.rep; replace GX := GX.below hbx; clear oty; obtain ⟨txa, txc, rfl, -⟩ := id GX; obtain ⟨tya, tyc, rfl, -⟩ := id GY
    refine hK.out _ _ (hK2) (fun hHeld => ?_)
    clear hK K
    refine wpAnyH_ready (rs := [15]) (by kernel_rfl) (by simp) ?_
    refine AllReadyH.cons rfl (fun K hK => ?_) AllReadyH.nil
    go_simp
    refine Calls.mono (sliceEqW_any GX GY) ?_; rintro e' z4 ⟨rfl, hbx⟩; rw [HDB.out]; have hK2 := Below.then hHeld hbx hHeld.size
    refine hK.out _ _ (hK2) (fun hHeld => ?_)
    clear hK K
    refine' wpAnyH_take (i := 16) (v := _) rfl (by kernel_rfl) (by kernel_rfl) (by kernel_rfl) (fun _ _ _ h => h) (Or.inl ⟨by rfl, ?hy17249⟩) hHeld ?hn17249
    case hy17249 => (intro wz hSw; (try dsimp only at hSw); go_simp; first | done | with_reducible rfl)
    try simp only [nrm, Act.put]
    refine' wpAnyH_take (i := 17) (v := _) rfl (by kernel_rfl) (by kernel_rfl) (by kernel_rfl) (fun _ _ _ h => h) (Or.inl ⟨by rfl, ?hy17250⟩) hHeld ?hn17250
    case hy17250 => (intro wz hSw; (try dsimp only at hSw); go_simp; first | done | with_reducible rfl)
    try simp only [nrm, Act.put]
    refine' wpAnyH_take (i := 18) (v := _) rfl (by kernel_rfl) (by kernel_rfl) (by kernel_rfl) (fun _ _ _ h => h) (Or.inl ⟨by rfl, ?hy17251⟩) hHeld ?hn17251
    case hy17251 => (intro wz hSw; (try dsimp only at hSw); go_simp; first | done | with_reducible rfl)
    try simp only [nrm, Act.put]
    refine wpAnyH_done (by kernel_rfl) ?_ _
    have HBF : Hid (Below w.heap.size w _) := (HX.out _ hHeld)
    clear hHeld a0 a1 a2 a3 b0 b1 b2 b3 hK2' hH2' GX GY
    go_wp2
    go_ret
    exact ⟨by first | rfl | (cases db <;> rfl), HBF.out⟩

end Go.Proofs.YthcgdhlemieboaaGreatDoor
