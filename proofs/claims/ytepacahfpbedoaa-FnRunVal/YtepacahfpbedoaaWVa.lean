/- A value is what it says: the law, walked. -/
import Derived.Test.YtepacahfpbedoaaPrl
import Derived.Test.YtepacahfpbedoaaLco
import Derived.Test.YtepacahfpbedoaaSml
namespace Go.Proofs.Ytepacahfpbedoaa
open Go.RowKit
set_option linter.unusedSimpArgs false
set_option linter.unusedVariables false
attribute [local go_sem ↓] Go.wp_at_zero Go.wp_at_succ
attribute [local go_sem] World.cell?_alloc_some

set_option maxHeartbeats 8000000 in
set_option maxRecDepth 20000 in
theorem fnRunVal_walk (a0 : Option Addr) (len0 cap0 : Nat) (z0 : List Int) (a1 : Option Addr) (len1 cap1 : Nat) (z1 : List Int) (w : World) (h0 : IsRow .u8 w a0 len0 cap0 z0) (h1 : IsRow .u8 w a1 len1 cap1 z1) :
    Calls Try.prog 9 #[.slice a0 len0 cap0, .slice a1 len1 cap1] w fun e w' => e = .returned (.bool true) ∧ Below w.heap.size w w' := by
  by_cases hl0 : (1048576 : Int) < (len0 : Int)
  · go_enter Try.func9, Try.ntmps9
    go_wp2
    go_ret
    exact ⟨rfl, Below.refl _ _⟩
  by_cases hl1 : (1048576 : Int) < (len1 : Int)
  · go_enter Try.func9, Try.ntmps9
    go_wp2
    go_ret
    exact ⟨rfl, Below.refl _ _⟩
  have C1 : Hid _ := drawNumsOk_any w a0 len0 cap0 z0 h0
  clear h0 h1
  go_enter Try.func9, Try.ntmps9
  go_wp2_with fail
  go_at_call 31; refine Calls.mono C1.out ?_
  rintro e w1 ⟨lv, sv, nv, ls, d, l, zs, rfl, hLp, hRp, ⟨hN, ad, nc, rfl, -⟩, ll, cn, hb1⟩
  have hL := hLp.rep
  have hR := hRp.rep
  obtain ⟨la, lc, rfl, -⟩ := id hL
  obtain ⟨sa, sc, rfl⟩ := hR.slice
  have HLR : Hid (∀ wz, Below w1.heap.size w1 wz → LRep wz (.slice la ls.length lc) ls ∧ Rep wz (d + 1) (.slice sa (ln (d + 1) (l : List (Pay × Tr d × Tr d))) sc) (l : List (Pay × Tr d × Tr d)) ∧ GRep (Value.int .i64) wz (.slice (some ad) zs.length nc) zs) := (show ∀ wz, _ from fun wz hb => ⟨hL.below hb, hR.below hb, hN.below hb⟩)
  have HB1 : Hid (Below w.heap.size w w1) := hb1
  have A : Below w1.heap.size w1 (w1.alloc (.cells #[.slice la ls.length lc, .slice sa (ln (d + 1) (l : List (Pay × Tr d × Tr d))) sc] 26)) := (Below.refl _ _).alloc (Nat.le_refl _) _
  have G2 := C2.new w1 (.slice la ls.length lc) (.slice sa (ln (d + 1) (l : List (Pay × Tr d × Tr d))) sc) 26
  generalize hw2 : w1.alloc (.cells #[.slice la ls.length lc, .slice sa (ln (d + 1) (l : List (Pay × Tr d × Tr d))) sc] 26) = w2 at A G2
  have HW2 : Hid _ := hw2
  have HA : Hid (Below w1.heap.size w1 w2) := A
  have K2 : Hid _ := numsOk_any (HLR.out w2 A).1 (HLR.out w2 A).2.1 (HLR.out w2 A).2.2
  have HG2 : Hid (C2 w2 w1.heap.size (.slice la ls.length lc) (.slice sa (ln (d + 1) (l : List (Pay × Tr d × Tr d))) sc)) := G2
  obtain ⟨nb, hnb⟩ : ∃ nb, numsB ls (d + 1) (l : List (Pay × Tr d × Tr d)) zs = nb := ⟨_, rfl⟩
  rw [hnb] at K2
  have HNB : Hid _ := hnb
  clear hLp hRp hb1 C1 A G2 hw2 hnb hL hR hN
  go_wp2_with fail
  rw [HW2.out]
  go_at_call 21; refine Calls.mono K2.out ?_
  rintro e w3 ⟨rfl, hb3⟩
  have HB3 : Hid (Below w1.heap.size w1 w3) := Below.then HA.out hb3 HA.out.size
  have z2 : w1.heap.size < w2.heap.size := C2.lt' HG2.out
  have G3 := HG2.out.same (hb3.block _ z2)
  have HG3 : Hid (C2 w3 w1.heap.size (.slice la ls.length lc) (.slice sa (ln (d + 1) (l : List (Pay × Tr d × Tr d))) sc)) := G3
  have K3 : Hid _ := sNumsOk_any (HLR.out w3 HB3.out).1 (HLR.out w3 HB3.out).2.1 (by omega) (HLR.out w3 HB3.out).2.2
  rw [HNB.out] at K3
  obtain ⟨⟨p0, p1⟩, -⟩ := G3
  clear hb3 K2 HG2 HA HW2 z2
  go_wp2_with fail
  go_at_call 32; refine Calls.mono K3.out ?_
  rintro e w4 ⟨rfl, hb4⟩
  have HB4 : Hid (Below w1.heap.size w1 w4) := Below.then HB3.out hb4 HB3.out.size
  have G4 := HG3.out.same (hb4.block _ (C2.lt' HG3.out))
  have HG4 : Hid (C2 w4 w1.heap.size (.slice la ls.length lc) (.slice sa (ln (d + 1) (l : List (Pay × Tr d × Tr d))) sc)) := G4
  have K4 : Hid _ := sNumsOk_any (HLR.out w4 HB4.out).1 (HLR.out w4 HB4.out).2.1 (by omega) (HLR.out w4 HB4.out).2.2
  rw [HNB.out] at K4
  clear p0 p1
  obtain ⟨⟨p0, p1⟩, -⟩ := G4
  clear hb4 K3 HG3 HB3
  cases nb
  · go_wp2_with fail
    go_at_call 32; refine Calls.mono K4.out ?_
    rintro e w5 ⟨rfl, hb5⟩
    have HB5 : Hid (Below w.heap.size w w5) := Below.then HB1.out (Below.then HB4.out hb5 HB4.out.size) HB1.out.size
    clear hb5 K4 p0 p1
    go_wp2
    go_ret
    exact ⟨rfl, HB5.out⟩
  by_cases hsh : (zs.length : Int) = 0
  · go_wp2_with fail
    go_at_call 32; refine Calls.mono K4.out ?_
    rintro e w5 ⟨rfl, hb5⟩
    have HB5 : Hid (Below w.heap.size w w5) := Below.then HB1.out (Below.then HB4.out hb5 HB4.out.size) HB1.out.size
    clear hb5 K4 p0 p1
    go_wp2
    go_ret
    exact ⟨rfl, HB5.out⟩
  clear K4
  obtain ⟨hpb, hzl, hten⟩ := numsB_parts HNB.out
  have HZL : Hid _ := hzl
  have hzp : 0 < zs.length := by omega
  have HN4 : Hid (∀ wz, Below w4.heap.size w4 wz → LRep wz (.slice la ls.length lc) ls ∧ GRep (Value.int .i64) wz (.slice (some ad) zs.length nc) zs) := (show ∀ wz, _ from fun wz hb => have q := HLR.out wz (Below.then HB4.out hb HB4.out.size); ⟨q.1, q.2.2⟩)
  obtain ⟨M, hM⟩ : ∃ M, Int.tmod (len1 : Int) 10 = M := ⟨_, rfl⟩
  have HM0 : Hid (0 ≤ M ∧ M < 10) := (show 0 ≤ M ∧ M < 10 by rw [← hM]; exact tmod_ten _ (by omega))
  obtain ⟨a, hae⟩ : ∃ a : Nat, len1 % zs.length = a := ⟨_, rfl⟩
  obtain ⟨b, hbe⟩ : ∃ b : Nat, len1 / 2 % zs.length = b := ⟨_, rfl⟩
  have hal : a < zs.length := by rw [← hae]; exact Nat.mod_lt _ hzp
  have hbl : b < zs.length := by rw [← hbe]; exact Nat.mod_lt _ hzp
  have hai : Int.tmod (len1 : Int) (zs.length : Int) = (a : Int) := by rw [Int.tmod_eq_emod_of_nonneg (by omega), ← hae]; rfl
  have hd2 : Int.tdiv (len1 : Int) 2 = ((len1 / 2 : Nat) : Int) := by rw [Int.tdiv_eq_ediv_of_nonneg (by omega)]; rfl
  have hbi : Int.tmod (((len1 / 2 : Nat) : Int)) (zs.length : Int) = (b : Int) := by rw [Int.tmod_eq_emod_of_nonneg (by omega), ← hbe]; rfl
  have hbi2 : (len1 : Int) / 2 % (zs.length : Int) = (b : Int) := by rw [← hbe]; rfl
  obtain ⟨na, no, had⟩ : ∃ na no, ad = ⟨na, no, none⟩ := by
    obtain ⟨a', c, hs, -, -, hcell⟩ := (HN4.out w4 (Below.refl _ _)).2
    obtain ⟨b', off, h1, -⟩ := hcell 0 hzp
    simp only [Value.slice.injEq] at hs
    exact ⟨b', off, Option.some.inj (hs.1.trans h1)⟩
  subst had
  obtain ⟨Za, hZa⟩ : ∃ z, zs[a] = z := ⟨_, rfl⟩
  obtain ⟨Zb, hZb⟩ : ∃ z, zs[b] = z := ⟨_, rfl⟩
  have tA := ten_get zs a hal hten
  have tB := ten_get zs b hbl hten
  rw [hZa] at tA
  rw [hZb] at tB
  have ca : w4.cell? ⟨na, no + a, none⟩ = some (.int .i64 Za) := grep_at (HN4.out w4 (Below.refl _ _)).2 (i := a) (by rw [List.getElem?_eq_getElem hal, hZa])
  have cb : w4.cell? ⟨na, no + b, none⟩ = some (.int .i64 Zb) := grep_at (HN4.out w4 (Below.refl _ _)).2 (i := b) (by rw [List.getElem?_eq_getElem hbl, hZb])
  have HZA : Hid (zs[a]? = some Za) := (show zs[a]? = some Za by rw [List.getElem?_eq_getElem hal, hZa])
  have HZB : Hid (zs[b]? = some Zb) := (show zs[b]? = some Zb by rw [List.getElem?_eq_getElem hbl, hZb])
  obtain ⟨sb, hsb⟩ : ∃ sb, decide (Za = Zb) = sb := ⟨_, rfl⟩
  have HSB : Hid _ := hsb
  have HAB : Hid (IntKind.i64.wrap (Za + Zb) = Za + Zb) := w64 (Za + Zb) (by omega)
  obtain ⟨Y2, hY2⟩ : ∃ y, Int.tmod (Za + Zb) 10 = y := ⟨_, rfl⟩
  have HY2 : Hid _ := hY2
  have HM : Hid (Int.tmod (len1 : Int) 10 = M) := hM
  obtain ⟨wA, hwA⟩ : ∃ x, x = w4.alloc (.cells #[.int .i64 1, .int .i64 M, .int .i64 0, .int .i64 2, .int .i64 (a : Int), .int .i64 0, .int .i64 3, .int .i64 (a : Int), .int .i64 (b : Int), .int .i64 4, .int .i64 (a : Int), .int .i64 (b : Int)] 30) := ⟨_, rfl⟩
  have HBA : Hid (Below w4.heap.size w4 wA) := (show Below w4.heap.size w4 wA by rw [hwA]; exact (Below.refl _ _).alloc (Nat.le_refl _) _)
  have HZA1 : Hid (wA.heap.size = w4.heap.size + 1) := (show wA.heap.size = w4.heap.size + 1 by rw [hwA]; simp)
  have HCA : Hid (∀ k x, (#[.int .i64 1, .int .i64 M, .int .i64 0, .int .i64 2, .int .i64 (a : Int), .int .i64 0, .int .i64 3, .int .i64 (a : Int), .int .i64 (b : Int), .int .i64 4, .int .i64 (a : Int), .int .i64 (b : Int)] : Array Value)[k]? = some x → wA.cell? ⟨w4.heap.size, k, none⟩ = some x) := (show ∀ k x, (#[.int .i64 1, .int .i64 M, .int .i64 0, .int .i64 2, .int .i64 (a : Int), .int .i64 0, .int .i64 3, .int .i64 (a : Int), .int .i64 (b : Int), .int .i64 4, .int .i64 (a : Int), .int .i64 (b : Int)] : Array Value)[k]? = some x → wA.cell? ⟨w4.heap.size, k, none⟩ = some x from fun k x hx => by rw [hwA]; simp [hx])
  have HWA : Hid _ := hwA
  have a0' : (0 : Int) ≤ (a : Int) := by omega
  have a1' : (a : Int) < (zs.length : Int) := by omega
  have b0' : (0 : Int) ≤ (b : Int) := by omega
  have b1' : (b : Int) < (zs.length : Int) := by omega
  clear hpb hzl hten hae hbe hal hbl hZa hZb tA tB hsb hY2 hwA
  go_wp2_with fail
  rw [← HWA.out]
  refine wp_region_held (S := (fun wz => Below w4.heap.size w4 wz)) (by kernel_rfl) ?_
  change wpAnyH _ _ _ _ _ _ _ _ (World.drew _)
  have hHeld := (HBA.out : Below w4.heap.size w4 wA).drew
  refine' wpAnyH_take (i := 0) (v := _) rfl (by kernel_rfl) (by kernel_rfl) (by kernel_rfl) (fun _ _ _ h => h) (Or.inl ⟨by rfl, ?hy501⟩) hHeld ?hn501
  case hy501 => (intro wz hSw; (try dsimp only at hSw); go_simp; first | done | with_reducible rfl)
  try simp only [List.getElem_toArray, List.getElem_cons_zero, List.getElem_cons_succ, Act.put, List.setIfInBounds_toArray, List.set_cons_zero, List.set_cons_succ]
  refine' wpAnyH_take (i := 1) (v := _) rfl (by kernel_rfl) (by kernel_rfl) (by kernel_rfl) (fun _ _ _ h => h) (Or.inl ⟨by rfl, ?hy502⟩) hHeld ?hn502
  case hy502 => (intro wz hSw; (try dsimp only at hSw); go_simp; first | done | with_reducible rfl)
  try simp only [List.getElem_toArray, List.getElem_cons_zero, List.getElem_cons_succ, Act.put, List.setIfInBounds_toArray, List.set_cons_zero, List.set_cons_succ]
  refine' wpAnyH_take (i := 2) (v := _) rfl (by kernel_rfl) (by kernel_rfl) (by kernel_rfl) (fun _ _ _ h => h) (Or.inl ⟨by rfl, ?hy503⟩) hHeld ?hn503
  case hy503 => (intro wz hSw; (try dsimp only at hSw); go_simp; first | done | with_reducible rfl)
  try simp only [List.getElem_toArray, List.getElem_cons_zero, List.getElem_cons_succ, Act.put, List.setIfInBounds_toArray, List.set_cons_zero, List.set_cons_succ]
  refine' wpAnyH_take (i := 3) (v := (.int .i64 Za)) rfl (by kernel_rfl) (by kernel_rfl) (by kernel_rfl) (fun _ _ _ h => h) (Or.inl ⟨by rfl, ?hy504⟩) hHeld ?hn504
  case hy504 => (intro wz hSw; have k := cell_later hSw ca; go_simp)
  try simp only [List.getElem_toArray, List.getElem_cons_zero, List.getElem_cons_succ, Act.put, List.setIfInBounds_toArray, List.set_cons_zero, List.set_cons_succ]
  refine' wpAnyH_take (i := 4) (v := _) rfl (by kernel_rfl) (by kernel_rfl) (by kernel_rfl) (fun _ _ _ h => h) (Or.inl ⟨by rfl, ?hy505⟩) hHeld ?hn505
  case hy505 => (intro wz hSw; (try dsimp only at hSw); go_simp; first | done | with_reducible rfl)
  try simp only [List.getElem_toArray, List.getElem_cons_zero, List.getElem_cons_succ, Act.put, List.setIfInBounds_toArray, List.set_cons_zero, List.set_cons_succ]
  refine' wpAnyH_take (i := 5) (v := _) rfl (by kernel_rfl) (by kernel_rfl) (by kernel_rfl) (fun _ _ _ h => h) (Or.inl ⟨by rfl, ?hy506⟩) hHeld ?hn506
  case hy506 => (intro wz hSw; (try dsimp only at hSw); go_simp; first | done | with_reducible rfl)
  try simp only [List.getElem_toArray, List.getElem_cons_zero, List.getElem_cons_succ, Act.put, List.setIfInBounds_toArray, List.set_cons_zero, List.set_cons_succ]
  refine' wpAnyH_take (i := 6) (v := _) rfl (by kernel_rfl) (by kernel_rfl) (by kernel_rfl) (fun _ _ _ h => h) (Or.inl ⟨by rfl, ?hy507⟩) hHeld ?hn507
  case hy507 => (intro wz hSw; (try dsimp only at hSw); go_simp; first | done | with_reducible rfl)
  try simp only [List.getElem_toArray, List.getElem_cons_zero, List.getElem_cons_succ, Act.put, List.setIfInBounds_toArray, List.set_cons_zero, List.set_cons_succ]
  refine' wpAnyH_take (i := 7) (v := (.int .i64 Zb)) rfl (by kernel_rfl) (by kernel_rfl) (by kernel_rfl) (fun _ _ _ h => h) (Or.inl ⟨by rfl, ?hy508⟩) hHeld ?hn508
  case hy508 => (intro wz hSw; have k := cell_later hSw cb; go_simp)
  try simp only [List.getElem_toArray, List.getElem_cons_zero, List.getElem_cons_succ, Act.put, List.setIfInBounds_toArray, List.set_cons_zero, List.set_cons_succ]
  refine' wpAnyH_take (i := 8) (v := (.bool sb)) rfl (by kernel_rfl) (by kernel_rfl) (by kernel_rfl) (fun _ _ _ h => h) (Or.inl ⟨by rfl, ?hy509⟩) hHeld ?hn509
  case hy509 => (intro wz hSw; have h := HSB.out; clear HSB; go_simp; rw [← h]; first | rfl | (simp; done))
  try simp only [List.getElem_toArray, List.getElem_cons_zero, List.getElem_cons_succ, Act.put, List.setIfInBounds_toArray, List.set_cons_zero, List.set_cons_succ]
  refine wpAnyH_done (by kernel_rfl) ?_ _
  clear hHeld HWA
  cases sb
  · have HSM : Hid (numV 4 (a : Int) (b : Int) zs = 0) := (show numV 4 (a : Int) (b : Int) zs = 0 by
      have h := HSB.out
      have ha : zs.getD a 0 = Za := by rw [List.getD_eq_getElem?_getD, HZA.out]; rfl
      have hb : zs.getD b 0 = Zb := by rw [List.getD_eq_getElem?_getD, HZB.out]; rfl
      unfold numV
      rw [if_neg (by decide), if_neg (by decide), if_neg (by decide), Int.toNat_natCast, Int.toNat_natCast, ha, hb]
      exact if_neg (of_decide_eq_false h))
    obtain ⟨wS, hwS⟩ : ∃ x, x = World.drew (World.drew (wA.alloc (.cells #[.int .i64 M, .int .i64 Za, .int .i64 Y2, .int .i64 (0 : Int)] 3))) := ⟨_, rfl⟩
    have HWS : Hid _ := hwS
    have BAS : Below wA.heap.size wA wS := by rw [hwS]; exact (((Below.refl _ _).alloc (Nat.le_refl _) _).drew).drew
    have HBS : Hid (Below w4.heap.size w4 wS) := Below.then HBA.out BAS HBA.out.size
    have HVF : Hid (∀ i, i < 4 → ∃ vk va vb Y, wS.cell? ⟨w4.heap.size, i * 3, none⟩ = some (.int .i64 vk) ∧ wS.cell? ⟨w4.heap.size, i * 3 + 1, none⟩ = some (.int .i64 va) ∧ wS.cell? ⟨w4.heap.size, i * 3 + 2, none⟩ = some (.int .i64 vb) ∧ wS.cell? ⟨wA.heap.size, i, none⟩ = some (.int .i64 Y) ∧ valB ls.length vk va vb = true ∧ numV vk va vb zs = Y) := (show ∀ i, i < 4 → ∃ vk va vb Y, wS.cell? ⟨w4.heap.size, i * 3, none⟩ = some (.int .i64 vk) ∧ wS.cell? ⟨w4.heap.size, i * 3 + 1, none⟩ = some (.int .i64 va) ∧ wS.cell? ⟨w4.heap.size, i * 3 + 2, none⟩ = some (.int .i64 vb) ∧ wS.cell? ⟨wA.heap.size, i, none⟩ = some (.int .i64 Y) ∧ valB ls.length vk va vb = true ∧ numV vk va vb zs = Y by
      have hA : ∀ k x, (#[.int .i64 1, .int .i64 M, .int .i64 0, .int .i64 2, .int .i64 (a : Int), .int .i64 0, .int .i64 3, .int .i64 (a : Int), .int .i64 (b : Int), .int .i64 4, .int .i64 (a : Int), .int .i64 (b : Int)] : Array Value)[k]? = some x → wS.cell? ⟨w4.heap.size, k, none⟩ = some x := fun k x hx => cell_later BAS (HCA.out k x hx)
      have hW : ∀ k x, (#[.int .i64 M, .int .i64 Za, .int .i64 Y2, .int .i64 (0 : Int)] : Array Value)[k]? = some x → wS.cell? ⟨wA.heap.size, k, none⟩ = some x := fun k x hx => by
        rw [hwS]
        have : (wA.alloc (.cells #[.int .i64 M, .int .i64 Za, .int .i64 Y2, .int .i64 (0 : Int)] 3)).cell? ⟨wA.heap.size, k, none⟩ = some x := by simp [hx]
        exact this
      have av : vIn (ls.length : Int) (a : Int) = true := by unfold vIn; simp; have := HZL.out; omega
      have bv : vIn (ls.length : Int) (b : Int) = true := by unfold vIn; simp; have := HZL.out; omega
      have mv : vIn 10 M = true := by unfold vIn; simp; exact HM0.out
      intro i hi
      match i, hi with
      | 0, _ => exact ⟨1, M, 0, M, hA 0 _ rfl, hA 1 _ rfl, hA 2 _ rfl, hW 0 _ rfl, by simp [valB, mv], by simp [numV]⟩
      | 1, _ => exact ⟨2, a, 0, Za, hA 3 _ rfl, hA 4 _ rfl, hA 5 _ rfl, hW 1 _ rfl, by simp [valB, av], by simp [numV, HZA.out]⟩
      | 2, _ => exact ⟨3, a, b, Y2, hA 6 _ rfl, hA 7 _ rfl, hA 8 _ rfl, hW 2 _ rfl, by simp [valB, av, bv], by simp [numV, HZA.out, HZB.out, HY2.out]⟩
      | 3, _ => exact ⟨4, a, b, 0, hA 9 _ rfl, hA 10 _ rfl, hA 11 _ rfl, hW 3 _ rfl, by simp [valB, av, bv], HSM.out⟩)
    have HP0S : Hid (wS.cell? ⟨w1.heap.size, 0, none⟩ = some (.slice la ls.length lc)) := cell_later HBS.out p0
    clear hwS BAS
    go_wp2_with fail
    refine wp_region_held (S := (fun wz => Below w4.heap.size w4 wz)) (by kernel_rfl) ?_
    change wpAnyH _ _ _ _ _ _ _ _ (World.drew _)
    have hHeld := ((HBA.out : Below w4.heap.size w4 wA).drew).drew
    refine' wpAnyH_take (i := 0) (v := _) rfl (by kernel_rfl) (by kernel_rfl) (by kernel_rfl) (fun _ _ _ h => h) (Or.inl ⟨by rfl, ?hy529⟩) hHeld ?hn529
    case hy529 => (intro wz hSw; (try dsimp only at hSw); go_simp; first | done | with_reducible rfl)
    try simp only [List.getElem_toArray, List.getElem_cons_zero, List.getElem_cons_succ, Act.put, List.setIfInBounds_toArray, List.set_cons_zero, List.set_cons_succ]
    refine' wpAnyH_take (i := 1) (v := _) rfl (by kernel_rfl) (by kernel_rfl) (by kernel_rfl) (fun _ _ _ h => h) (Or.inl ⟨by rfl, ?hy530⟩) hHeld ?hn530
    case hy530 => (intro wz hSw; (try dsimp only at hSw); go_simp; first | done | with_reducible rfl)
    try simp only [List.getElem_toArray, List.getElem_cons_zero, List.getElem_cons_succ, Act.put, List.setIfInBounds_toArray, List.set_cons_zero, List.set_cons_succ]
    refine' wpAnyH_take (i := 2) (v := (.int .i64 M)) rfl (by kernel_rfl) (by kernel_rfl) (by kernel_rfl) (fun _ _ _ h => h) (Or.inl ⟨by rfl, ?hy531⟩) hHeld ?hn531
    case hy531 => (intro wz hSw; have h := HM.out; go_simp)
    try simp only [List.getElem_toArray, List.getElem_cons_zero, List.getElem_cons_succ, Act.put, List.setIfInBounds_toArray, List.set_cons_zero, List.set_cons_succ]
    refine' wpAnyH_take (i := 3) (v := _) rfl (by kernel_rfl) (by kernel_rfl) (by kernel_rfl) (fun _ _ _ h => h) (Or.inl ⟨by rfl, ?hy532⟩) hHeld ?hn532
    case hy532 => (intro wz hSw; (try dsimp only at hSw); go_simp; first | done | with_reducible rfl)
    try simp only [List.getElem_toArray, List.getElem_cons_zero, List.getElem_cons_succ, Act.put, List.setIfInBounds_toArray, List.set_cons_zero, List.set_cons_succ]
    refine' wpAnyH_take (i := 4) (v := _) rfl (by kernel_rfl) (by kernel_rfl) (by kernel_rfl) (fun _ _ _ h => h) (Or.inl ⟨by rfl, ?hy533⟩) hHeld ?hn533
    case hy533 => (intro wz hSw; (try dsimp only at hSw); go_simp; first | done | with_reducible rfl)
    try simp only [List.getElem_toArray, List.getElem_cons_zero, List.getElem_cons_succ, Act.put, List.setIfInBounds_toArray, List.set_cons_zero, List.set_cons_succ]
    refine' wpAnyH_take (i := 5) (v := _) rfl (by kernel_rfl) (by kernel_rfl) (by kernel_rfl) (fun _ _ _ h => h) (Or.inl ⟨by rfl, ?hy534⟩) hHeld ?hn534
    case hy534 => (intro wz hSw; (try dsimp only at hSw); go_simp; first | done | with_reducible rfl)
    try simp only [List.getElem_toArray, List.getElem_cons_zero, List.getElem_cons_succ, Act.put, List.setIfInBounds_toArray, List.set_cons_zero, List.set_cons_succ]
    refine' wpAnyH_take (i := 6) (v := (.int .i64 Za)) rfl (by kernel_rfl) (by kernel_rfl) (by kernel_rfl) (fun _ _ _ h => h) (Or.inl ⟨by rfl, ?hy535⟩) hHeld ?hn535
    case hy535 => (intro wz hSw; have k := cell_later hSw ca; go_simp)
    try simp only [List.getElem_toArray, List.getElem_cons_zero, List.getElem_cons_succ, Act.put, List.setIfInBounds_toArray, List.set_cons_zero, List.set_cons_succ]
    refine' wpAnyH_take (i := 7) (v := _) rfl (by kernel_rfl) (by kernel_rfl) (by kernel_rfl) (fun _ _ _ h => h) (Or.inl ⟨by rfl, ?hy536⟩) hHeld ?hn536
    case hy536 => (intro wz hSw; (try dsimp only at hSw); go_simp; first | done | with_reducible rfl)
    try simp only [List.getElem_toArray, List.getElem_cons_zero, List.getElem_cons_succ, Act.put, List.setIfInBounds_toArray, List.set_cons_zero, List.set_cons_succ]
    refine' wpAnyH_take (i := 8) (v := _) rfl (by kernel_rfl) (by kernel_rfl) (by kernel_rfl) (fun _ _ _ h => h) (Or.inl ⟨by rfl, ?hy537⟩) hHeld ?hn537
    case hy537 => (intro wz hSw; (try dsimp only at hSw); go_simp; first | done | with_reducible rfl)
    try simp only [List.getElem_toArray, List.getElem_cons_zero, List.getElem_cons_succ, Act.put, List.setIfInBounds_toArray, List.set_cons_zero, List.set_cons_succ]
    refine' wpAnyH_take (i := 9) (v := _) rfl (by kernel_rfl) (by kernel_rfl) (by kernel_rfl) (fun _ _ _ h => h) (Or.inl ⟨by rfl, ?hy538⟩) hHeld ?hn538
    case hy538 => (intro wz hSw; (try dsimp only at hSw); go_simp; first | done | with_reducible rfl)
    try simp only [List.getElem_toArray, List.getElem_cons_zero, List.getElem_cons_succ, Act.put, List.setIfInBounds_toArray, List.set_cons_zero, List.set_cons_succ]
    refine' wpAnyH_take (i := 10) (v := (.int .i64 Za)) rfl (by kernel_rfl) (by kernel_rfl) (by kernel_rfl) (fun _ _ _ h => h) (Or.inl ⟨by rfl, ?hy539⟩) hHeld ?hn539
    case hy539 => (intro wz hSw; have k := cell_later hSw ca; go_simp)
    try simp only [List.getElem_toArray, List.getElem_cons_zero, List.getElem_cons_succ, Act.put, List.setIfInBounds_toArray, List.set_cons_zero, List.set_cons_succ]
    refine' wpAnyH_take (i := 11) (v := _) rfl (by kernel_rfl) (by kernel_rfl) (by kernel_rfl) (fun _ _ _ h => h) (Or.inl ⟨by rfl, ?hy540⟩) hHeld ?hn540
    case hy540 => (intro wz hSw; (try dsimp only at hSw); go_simp; first | done | with_reducible rfl)
    try simp only [List.getElem_toArray, List.getElem_cons_zero, List.getElem_cons_succ, Act.put, List.setIfInBounds_toArray, List.set_cons_zero, List.set_cons_succ]
    refine' wpAnyH_take (i := 12) (v := _) rfl (by kernel_rfl) (by kernel_rfl) (by kernel_rfl) (fun _ _ _ h => h) (Or.inl ⟨by rfl, ?hy541⟩) hHeld ?hn541
    case hy541 => (intro wz hSw; (try dsimp only at hSw); go_simp; first | done | with_reducible rfl)
    try simp only [List.getElem_toArray, List.getElem_cons_zero, List.getElem_cons_succ, Act.put, List.setIfInBounds_toArray, List.set_cons_zero, List.set_cons_succ]
    refine' wpAnyH_take (i := 13) (v := _) rfl (by kernel_rfl) (by kernel_rfl) (by kernel_rfl) (fun _ _ _ h => h) (Or.inl ⟨by rfl, ?hy542⟩) hHeld ?hn542
    case hy542 => (intro wz hSw; (try dsimp only at hSw); go_simp; first | done | with_reducible rfl)
    try simp only [List.getElem_toArray, List.getElem_cons_zero, List.getElem_cons_succ, Act.put, List.setIfInBounds_toArray, List.set_cons_zero, List.set_cons_succ]
    refine' wpAnyH_take (i := 14) (v := (.int .i64 Zb)) rfl (by kernel_rfl) (by kernel_rfl) (by kernel_rfl) (fun _ _ _ h => h) (Or.inl ⟨by rfl, ?hy543⟩) hHeld ?hn543
    case hy543 => (intro wz hSw; have k := cell_later hSw cb; go_simp)
    try simp only [List.getElem_toArray, List.getElem_cons_zero, List.getElem_cons_succ, Act.put, List.setIfInBounds_toArray, List.set_cons_zero, List.set_cons_succ]
    refine' wpAnyH_take (i := 15) (v := (.int .i64 (Za + Zb))) rfl (by kernel_rfl) (by kernel_rfl) (by kernel_rfl) (fun _ _ _ h => h) (Or.inl ⟨by rfl, ?hy544⟩) hHeld ?hn544
    case hy544 => (intro wz hSw; have h := HAB.out; go_simp)
    try simp only [List.getElem_toArray, List.getElem_cons_zero, List.getElem_cons_succ, Act.put, List.setIfInBounds_toArray, List.set_cons_zero, List.set_cons_succ]
    refine' wpAnyH_take (i := 16) (v := (.int .i64 Y2)) rfl (by kernel_rfl) (by kernel_rfl) (by kernel_rfl) (fun _ _ _ h => h) (Or.inl ⟨by rfl, ?hy545⟩) hHeld ?hn545
    case hy545 => (intro wz hSw; have h := HY2.out; go_simp)
    try simp only [List.getElem_toArray, List.getElem_cons_zero, List.getElem_cons_succ, Act.put, List.setIfInBounds_toArray, List.set_cons_zero, List.set_cons_succ]
    refine' wpAnyH_take (i := 17) (v := _) rfl (by kernel_rfl) (by kernel_rfl) (by kernel_rfl) (fun _ _ _ h => h) (Or.inl ⟨by rfl, ?hy546⟩) hHeld ?hn546
    case hy546 => (intro wz hSw; (try dsimp only at hSw); go_simp; first | done | with_reducible rfl)
    try simp only [List.getElem_toArray, List.getElem_cons_zero, List.getElem_cons_succ, Act.put, List.setIfInBounds_toArray, List.set_cons_zero, List.set_cons_succ]
    refine wpAnyH_ready (rs := [18]) (by kernel_rfl) (by simp) ?_
    refine AllReadyH.cons rfl (fun K hK => ?_) AllReadyH.nil
    go_simp
    rw [← HWS.out]
    refine hK.out _ _ (HBS.out) (fun hHeld => ?_)
    clear hK K
    refine' wpAnyH_take (i := 19) (v := _) rfl (by kernel_rfl) (by kernel_rfl) (by kernel_rfl) (fun _ _ _ h => h) (Or.inl ⟨by rfl, ?hy547⟩) hHeld ?hn547
    case hy547 => (intro wz hSw; (try dsimp only at hSw); go_simp; first | done | with_reducible rfl)
    try simp only [List.getElem_toArray, List.getElem_cons_zero, List.getElem_cons_succ, Act.put, List.setIfInBounds_toArray, List.set_cons_zero, List.set_cons_succ]
    refine wpAnyH_done (by kernel_rfl) ?_ _
    clear hHeld HWS
    go_wp2_with fail
    go_loopw [13] (fun j wr => ∃ (i : Nat), i ≤ 4 ∧ j = .int .i64 i ∧ Below wS.heap.size wS wr) (fun j _ => 4 - (intOf j).toNat)
    case atStart => exact ⟨0, by omega, rfl, Below.refl _ _⟩
    case round =>
      obtain ⟨i, hi, rfl, hbr⟩ := hrel
      by_cases hlt : i < 4
      · obtain ⟨vk, va, vb, Y, u0, u1, u2, cw, hvb, hY⟩ := HVF.out i hlt
        replace u0 := cell_later hbr u0
        replace u1 := cell_later hbr u1
        replace u2 := cell_later hbr u2
        replace cw := cell_later hbr cw
        have kp0 := cell_later hbr HP0S.out
        have HVO : Hid (numsB ls 1 (oneV vk va vb) zs = true) := oneV_ok HNB.out ll.1 hvb
        obtain ⟨s, hs⟩ : ∃ s, runS ls 1 (oneV vk va vb) zs = s := ⟨_, rfl⟩
        have HS : Hid _ := hs
        have hsr := oneV_run HNB.out ll.1 hvb
        rw [hs, hY] at hsr
        have HSL : Hid (s.n.length = zs.length) := (show s.n.length = zs.length by rw [hsr]; simp)
        have HS0 : Hid (s.n[0]? = some Y) := (show s.n[0]? = some Y by rw [hsr]; exact List.getElem?_set_self (by omega))
        have HWL : Hid (s.ws.length = 1) := (show s.ws.length = 1 by rw [hsr]; rfl)
        have HBr : Hid (Below wS.heap.size wS wr) := hbr
        have HB4r : Hid (Below w4.heap.size w4 wr) := Below.then HBS.out hbr HBS.out.size
        have i0' : (0 : Int) ≤ (i : Int) := by omega
        have i1' : (i : Int) < 4 := by omega
        clear hbr hs hsr hY hvb
        go_wp2_with fail
        refine wp_region_held (S := (fun wz => Below wr.heap.size wr wz)) (by kernel_rfl) ?_
        change wpAnyH _ _ _ _ _ _ _ _ (World.drew _)
        have hHeld := (Below.refl wr.heap.size wr).drew
        refine' wpAnyH_take (i := 0) (v := _) rfl (by kernel_rfl) (by kernel_rfl) (by kernel_rfl) (fun _ _ _ h => h) (Or.inl ⟨by rfl, ?hy1⟩) hHeld ?hn1
        case hy1 => (intro wz hSw; go_simp; first | done | with_reducible rfl)
        try simp only [List.getElem_toArray, List.getElem_cons_zero, List.getElem_cons_succ, Act.put, List.setIfInBounds_toArray, List.set_cons_zero, List.set_cons_succ]
        refine' wpAnyH_take (i := 1) (v := (.slice la ls.length lc)) rfl (by kernel_rfl) (by kernel_rfl) (by kernel_rfl) (fun _ _ _ h => h) (Or.inl ⟨by rfl, ?hy2⟩) hHeld ?hn2
        case hy2 => (intro wz hSw; have k := cell_later hSw kp0; go_simp)
        try simp only [List.getElem_toArray, List.getElem_cons_zero, List.getElem_cons_succ, Act.put, List.setIfInBounds_toArray, List.set_cons_zero, List.set_cons_succ]
        refine' wpAnyH_take (i := 2) (v := _) rfl (by kernel_rfl) (by kernel_rfl) (by kernel_rfl) (fun _ _ _ h => h) (Or.inl ⟨by rfl, ?hy3⟩) hHeld ?hn3
        case hy3 => (intro wz hSw; go_simp; first | done | with_reducible rfl)
        try simp only [List.getElem_toArray, List.getElem_cons_zero, List.getElem_cons_succ, Act.put, List.setIfInBounds_toArray, List.set_cons_zero, List.set_cons_succ]
        refine' wpAnyH_take (i := 3) (v := _) rfl (by kernel_rfl) (by kernel_rfl) (by kernel_rfl) (fun _ _ _ h => h) (Or.inl ⟨by rfl, ?hy4⟩) hHeld ?hn4
        case hy4 => (intro wz hSw; go_simp; first | done | with_reducible rfl)
        try simp only [List.getElem_toArray, List.getElem_cons_zero, List.getElem_cons_succ, Act.put, List.setIfInBounds_toArray, List.set_cons_zero, List.set_cons_succ]
        refine' wpAnyH_take (i := 4) (v := (.pointer (some ⟨w4.heap.size, i * 3, none⟩))) rfl (by kernel_rfl) (by kernel_rfl) (by kernel_rfl) (fun _ _ _ h => h) (Or.inl ⟨by rfl, ?hy5⟩) hHeld ?hn5
        case hy5 => (intro wz hSw; go_simp; first | done | with_reducible rfl | simp)
        try simp only [List.getElem_toArray, List.getElem_cons_zero, List.getElem_cons_succ, Act.put, List.setIfInBounds_toArray, List.set_cons_zero, List.set_cons_succ]
        refine' wpAnyH_take (i := 5) (v := (.agg #[.int .i64 vk, .int .i64 va, .int .i64 vb])) rfl (by kernel_rfl) (by kernel_rfl) (by kernel_rfl) (fun _ _ _ h => h) (Or.inl ⟨by rfl, ?hy6⟩) hHeld ?hn6
        case hy6 => (intro wz hSw; have k := cell_later hSw u0; have k' := cell_later hSw u1; have k2 := cell_later hSw u2; go_simp)
        try simp only [List.getElem_toArray, List.getElem_cons_zero, List.getElem_cons_succ, Act.put, List.setIfInBounds_toArray, List.set_cons_zero, List.set_cons_succ]
        refine' wpAnyH_take (i := 6) (v := _) rfl (by kernel_rfl) (by kernel_rfl) (by kernel_rfl) (fun _ _ _ h => h) (Or.inl ⟨by rfl, ?hy7⟩) hHeld ?hn7
        case hy7 => (intro wz hSw; go_simp; first | done | with_reducible rfl)
        try simp only [List.getElem_toArray, List.getElem_cons_zero, List.getElem_cons_succ, Act.put, List.setIfInBounds_toArray, List.set_cons_zero, List.set_cons_succ]
        refine' wpAnyH_take (i := 9) (v := _) rfl (by kernel_rfl) (by kernel_rfl) (by kernel_rfl) (fun _ _ _ h => h) (Or.inl ⟨by rfl, ?hy8⟩) hHeld ?hn8
        case hy8 => (intro wz hSw; go_simp; first | done | with_reducible rfl)
        try simp only [List.getElem_toArray, List.getElem_cons_zero, List.getElem_cons_succ, Act.put, List.setIfInBounds_toArray, List.set_cons_zero, List.set_cons_succ]
        refine wpAnyH_ready (rs := [7, 14]) (by kernel_rfl) (by simp) ?_
        refine AllReadyH.cons rfl (fun K hK => ?_) (AllReadyH.cons rfl (fun K hK => ?_) AllReadyH.nil)
        · go_simp
          have RV := rep_oneV wr vk va vb 32
          have AL : Below wr.heap.size wr (World.drew (World.alloc wr (.cells #[.int .i64 1, .int .i64 0, .int .i64 vk, .int .i64 va, .int .i64 vb, .int .i64 0, .slice none 0 0, .slice none 0 0] 32))) := ((Below.refl _ _).alloc (Nat.le_refl _) _).drew
          replace RV := RV.below (Below.drew (Below.refl _ _))
          obtain ⟨pb, hpb⟩ : ∃ x, x = (wr).heap.size := ⟨_, rfl⟩
          rw [← hpb] at RV ⊢
          clear hpb
          generalize (World.drew (World.alloc wr (.cells #[.int .i64 1, .int .i64 0, .int .i64 vk, .int .i64 va, .int .i64 vb, .int .i64 0, .slice none 0 0, .slice none 0 0] 32))) = wV at *
          refine hK.out _ _ (AL) (fun hHeld => ?_)
          clear hK K
          refine' wpAnyH_take (i := 8) (v := _) rfl (by kernel_rfl) (by kernel_rfl) (by kernel_rfl) (fun _ _ _ h => h) (Or.inl ⟨by rfl, ?hy9⟩) hHeld ?hn9
          case hy9 => (intro wz hSw; go_simp; first | done | with_reducible rfl)
          try simp only [List.getElem_toArray, List.getElem_cons_zero, List.getElem_cons_succ, Act.put, List.setIfInBounds_toArray, List.set_cons_zero, List.set_cons_succ]
          refine wpAnyH_ready (rs := [10, 14]) (by kernel_rfl) (by simp) ?_
          refine AllReadyH.cons rfl (fun K hK => ?_) (AllReadyH.cons rfl (fun K hK => ?_) AllReadyH.nil)
          · have KR := runOf_any (HN4.out _ (Below.then HB4r.out hHeld HB4r.out.size)).1 RV (HN4.out _ (Below.then HB4r.out hHeld HB4r.out.size)).2
            rw [HVO.out, HS.out] at KR
            go_simp
            refine Calls.mono KR ?_
            rintro e' wR ⟨vua, vub, vuc, rfl, hbR, r3⟩
            clear KR
            obtain ⟨ua, uac, ha⟩ := rowg_slice r3.n
            obtain ⟨ub, ubc, hb⟩ := rowg_slice r3.ws
            obtain ⟨uc, ucc, hc⟩ := rowg_slice r3.ss
            subst ha hb hc
            refine hK.out _ _ (Below.then hHeld hbR hHeld.size) (fun hHeld => ?_)
            clear hK K
            refine' wpAnyH_take (i := 11) (v := _) rfl (by kernel_rfl) (by kernel_rfl) (by kernel_rfl) (fun _ _ _ h => h) (Or.inl ⟨by rfl, ?hy10⟩) hHeld ?hn10
            case hy10 => (intro wz hSw; go_simp; first | done | with_reducible rfl)
            try simp only [List.getElem_toArray, List.getElem_cons_zero, List.getElem_cons_succ, Act.put, List.setIfInBounds_toArray, List.set_cons_zero, List.set_cons_succ]
            refine' wpAnyH_take (i := 12) (v := _) rfl (by kernel_rfl) (by kernel_rfl) (by kernel_rfl) (fun _ _ _ h => h) (Or.inl ⟨by rfl, ?hy11⟩) hHeld ?hn11
            case hy11 => (intro wz hSw; go_simp; first | done | with_reducible rfl)
            try simp only [List.getElem_toArray, List.getElem_cons_zero, List.getElem_cons_succ, Act.put, List.setIfInBounds_toArray, List.set_cons_zero, List.set_cons_succ]
            refine' wpAnyH_take (i := 13) (v := _) rfl (by kernel_rfl) (by kernel_rfl) (by kernel_rfl) (fun _ _ _ h => h) (Or.inl ⟨by rfl, ?hy12⟩) hHeld ?hn12
            case hy12 => (intro wz hSw; go_simp; first | done | with_reducible rfl)
            try simp only [List.getElem_toArray, List.getElem_cons_zero, List.getElem_cons_succ, Act.put, List.setIfInBounds_toArray, List.set_cons_zero, List.set_cons_succ]
            refine wpAnyH_ready (rs := [14]) (by kernel_rfl) (by simp) ?_
            refine AllReadyH.cons rfl (fun K hK => ?_) AllReadyH.nil
            go_simp
            have CY := C3.new wR (.slice none 0 0) (.slice none 0 0) (.slice none 0 0) 44
            have AL : Below (wR).heap.size wR (World.alloc wR (.cells #[.slice none 0 0, .slice none 0 0, .slice none 0 0] 44)) := (Below.refl _ _).alloc (Nat.le_refl _) _
            obtain ⟨yb, hyb⟩ : ∃ yb, yb = (wR).heap.size := ⟨_, rfl⟩
            have hyl : yb < ((World.alloc wR (.cells #[.slice none 0 0, .slice none 0 0, .slice none 0 0] 44))).heap.size := by rw [hyb]; exact C3.lt CY
            have hy8 : wr.heap.size ≤ yb := by rw [hyb]; first | exact Nat.le_refl _ | exact hHeld.size
            rw [← hyb] at CY ⊢
            have hne : ∀ b, (.slice ua s.n.length uac : Value).ownBlock = some b ∨ (.slice ub s.ws.length ubc : Value).ownBlock = some b ∨ (.slice uc s.ss.length ucc : Value).ownBlock = some b → b ≠ yb := by
              rintro b (h | h | h)
              · have := (World.ownsRow.lt r3.n b h).2; omega
              · have := (World.ownsRow.lt r3.ws b h).2; omega
              · have := (World.ownsRow.lt r3.ss b h).2; omega
            replace r3 := r3.below AL
            clear hyb
            generalize (World.alloc wR (.cells #[.slice none 0 0, .slice none 0 0, .slice none 0 0] 44)) = wY at *
            refine hK.out _ _ (Below.then hHeld AL hHeld.size) (fun hHeld => ?_)
            clear hK K
            refine wpAnyH_ready (rs := [15]) (by kernel_rfl) (by simp) ?_
            refine AllReadyH.cons rfl (fun K hK => ?_) AllReadyH.nil
            obtain ⟨⟨c0, c1, c2⟩, f0, f1, f2⟩ := id CY
            have GY : C3 ((((wY).setCell ⟨yb, 0, none⟩ (.slice ua s.n.length uac)).setCell ⟨yb, 1, none⟩ (.slice ub s.ws.length ubc)).setCell ⟨yb, 2, none⟩ (.slice uc s.ss.length ucc)) yb (.slice ua s.n.length uac) (.slice ub s.ws.length ubc) (.slice uc s.ss.length ucc) := ((CY.set0 _).set1 _).set2 _
            have RY := ((r3.far ⟨yb, 0, none⟩ (.slice ua s.n.length uac) (fun h => hne _ (.inl h) rfl) (fun h => hne _ (.inr (.inl h)) rfl) (fun h => hne _ (.inr (.inr h)) rfl)).far ⟨yb, 1, none⟩ (.slice ub s.ws.length ubc) (fun h => hne _ (.inl h) rfl) (fun h => hne _ (.inr (.inl h)) rfl) (fun h => hne _ (.inr (.inr h)) rfl)).far ⟨yb, 2, none⟩ (.slice uc s.ss.length ucc) (fun h => hne _ (.inl h) rfl) (fun h => hne _ (.inr (.inl h)) rfl) (fun h => hne _ (.inr (.inr h)) rfl)
            have BY : Below wr.heap.size wr ((((wY).setCell ⟨yb, 0, none⟩ (.slice ua s.n.length uac)).setCell ⟨yb, 1, none⟩ (.slice ub s.ws.length ubc)).setCell ⟨yb, 2, none⟩ (.slice uc s.ss.length ucc)) := ((hHeld.setCell hy8 _).setCell hy8 _).setCell hy8 _
            clear CY
            go_simp
            clear c0 c1 c2 f0 f1 f2
            generalize (((wY).setCell ⟨yb, 0, none⟩ (.slice ua s.n.length uac)).setCell ⟨yb, 1, none⟩ (.slice ub s.ws.length ubc)).setCell ⟨yb, 2, none⟩ (.slice uc s.ss.length ucc) = wF at GY RY BY ⊢
            refine hK.out _ _ (BY) (fun hHeld => ?_)
            clear hK K
            refine' wpAnyH_take (i := 16) (v := _) rfl (by kernel_rfl) (by kernel_rfl) (by kernel_rfl) (fun _ _ _ h => h) (Or.inl ⟨by rfl, ?hy13⟩) hHeld ?hn13
            case hy13 => (intro wz hSw; go_simp; first | done | with_reducible rfl)
            try simp only [List.getElem_toArray, List.getElem_cons_zero, List.getElem_cons_succ, Act.put, List.setIfInBounds_toArray, List.set_cons_zero, List.set_cons_succ]
            refine wpAnyH_done (by kernel_rfl) ?_ _
            clear hHeld
            have HYF : Hid (GRep (Value.int .i64) wF (.slice ua s.n.length uac) s.n) := RY.reps.1
            obtain ⟨ug, uo, hua⟩ : ∃ ug uo, ua = some ⟨ug, uo, none⟩ := by
              obtain ⟨a', c', hs', -, -, hcell'⟩ := HYF.out
              obtain ⟨b', off', h1', -⟩ := hcell' 0 (by have := HSL.out; omega)
              simp only [Value.slice.injEq] at hs'
              exact ⟨b', off', hs'.1.trans h1'⟩
            subst hua
            have cY : wF.cell? ⟨ug, uo, none⟩ = some (.int .i64 Y) := grep_at HYF.out (i := 0) HS0.out
            have hsl : 0 < s.n.length := by have := HSL.out; omega
            replace cw := cell_later BY cw
            obtain ⟨⟨ky0, ky1, ky2⟩, -⟩ := GY
            have HBF : Hid (Below wr.heap.size wr wF) := BY
            clear RY BY r3 hne
            go_wp2_with fail
            refine wp_region_held (S := (fun wz => Below wF.heap.size wF wz)) (by kernel_rfl) ?_
            change wpAnyH _ _ _ _ _ _ _ _ (World.drew _)
            have hHeld := (Below.refl wF.heap.size wF).drew
            refine' wpAnyH_take (i := 0) (v := _) rfl (by kernel_rfl) (by kernel_rfl) (by kernel_rfl) (fun _ _ _ h => h) (Or.inl ⟨by rfl, ?hy1x510⟩) hHeld ?hn1x510
            case hy1x510 => (intro wz hSw; (try dsimp only at hSw); go_simp; first | done | with_reducible rfl)
            try simp only [List.getElem_toArray, List.getElem_cons_zero, List.getElem_cons_succ, Act.put, List.setIfInBounds_toArray, List.set_cons_zero, List.set_cons_succ]
            refine' wpAnyH_take (i := 1) (v := _) rfl (by kernel_rfl) (by kernel_rfl) (by kernel_rfl) (fun _ _ _ h => h) (Or.inl ⟨by rfl, ?hy1x511⟩) hHeld ?hn1x511
            case hy1x511 => (intro wz hSw; (try dsimp only at hSw); go_simp; first | done | with_reducible rfl)
            try simp only [List.getElem_toArray, List.getElem_cons_zero, List.getElem_cons_succ, Act.put, List.setIfInBounds_toArray, List.set_cons_zero, List.set_cons_succ]
            refine' wpAnyH_take (i := 2) (v := _) rfl (by kernel_rfl) (by kernel_rfl) (by kernel_rfl) (fun _ _ _ h => h) (Or.inl ⟨by rfl, ?hy1x512⟩) hHeld ?hn1x512
            case hy1x512 => (intro wz hSw; (try dsimp only at hSw); go_simp; first | done | with_reducible rfl)
            try simp only [List.getElem_toArray, List.getElem_cons_zero, List.getElem_cons_succ, Act.put, List.setIfInBounds_toArray, List.set_cons_zero, List.set_cons_succ]
            refine' wpAnyH_take (i := 3) (v := _) rfl (by kernel_rfl) (by kernel_rfl) (by kernel_rfl) (fun _ _ _ h => h) (Or.inl ⟨by rfl, ?hy1x513⟩) hHeld ?hn1x513
            case hy1x513 => (intro wz hSw; (try dsimp only at hSw); go_simp; first | done | with_reducible rfl)
            try simp only [List.getElem_toArray, List.getElem_cons_zero, List.getElem_cons_succ, Act.put, List.setIfInBounds_toArray, List.set_cons_zero, List.set_cons_succ]
            refine' wpAnyH_take (i := 4) (v := (.slice (some ⟨ug, uo, none⟩) s.n.length uac)) rfl (by kernel_rfl) (by kernel_rfl) (by kernel_rfl) (fun _ _ _ h => h) (Or.inl ⟨by rfl, ?hy1x514⟩) hHeld ?hn1x514
            case hy1x514 => (intro wz hSw; have k := cell_later hSw ky0; go_simp)
            try simp only [List.getElem_toArray, List.getElem_cons_zero, List.getElem_cons_succ, Act.put, List.setIfInBounds_toArray, List.set_cons_zero, List.set_cons_succ]
            refine' wpAnyH_take (i := 5) (v := _) rfl (by kernel_rfl) (by kernel_rfl) (by kernel_rfl) (fun _ _ _ h => h) (Or.inl ⟨by rfl, ?hy1x515⟩) hHeld ?hn1x515
            case hy1x515 => (intro wz hSw; go_simp; first | done | with_reducible rfl | simp)
            try simp only [List.getElem_toArray, List.getElem_cons_zero, List.getElem_cons_succ, Act.put, List.setIfInBounds_toArray, List.set_cons_zero, List.set_cons_succ]
            refine' wpAnyH_take (i := 6) (v := (.int .i64 Y)) rfl (by kernel_rfl) (by kernel_rfl) (by kernel_rfl) (fun _ _ _ h => h) (Or.inl ⟨by rfl, ?hy1x516⟩) hHeld ?hn1x516
            case hy1x516 => (intro wz hSw; have k := cell_later hSw cY; go_simp)
            try simp only [List.getElem_toArray, List.getElem_cons_zero, List.getElem_cons_succ, Act.put, List.setIfInBounds_toArray, List.set_cons_zero, List.set_cons_succ]
            refine' wpAnyH_take (i := 7) (v := _) rfl (by kernel_rfl) (by kernel_rfl) (by kernel_rfl) (fun _ _ _ h => h) (Or.inl ⟨by rfl, ?hy1x517⟩) hHeld ?hn1x517
            case hy1x517 => (intro wz hSw; (try dsimp only at hSw); go_simp; first | done | with_reducible rfl)
            try simp only [List.getElem_toArray, List.getElem_cons_zero, List.getElem_cons_succ, Act.put, List.setIfInBounds_toArray, List.set_cons_zero, List.set_cons_succ]
            refine' wpAnyH_take (i := 8) (v := _) rfl (by kernel_rfl) (by kernel_rfl) (by kernel_rfl) (fun _ _ _ h => h) (Or.inl ⟨by rfl, ?hy1x518⟩) hHeld ?hn1x518
            case hy1x518 => (intro wz hSw; (try dsimp only at hSw); go_simp; first | done | with_reducible rfl)
            try simp only [List.getElem_toArray, List.getElem_cons_zero, List.getElem_cons_succ, Act.put, List.setIfInBounds_toArray, List.set_cons_zero, List.set_cons_succ]
            refine' wpAnyH_take (i := 9) (v := _) rfl (by kernel_rfl) (by kernel_rfl) (by kernel_rfl) (fun _ _ _ h => h) (Or.inl ⟨by rfl, ?hy1x519⟩) hHeld ?hn1x519
            case hy1x519 => (intro wz hSw; go_simp; first | done | with_reducible rfl | simp)
            try simp only [List.getElem_toArray, List.getElem_cons_zero, List.getElem_cons_succ, Act.put, List.setIfInBounds_toArray, List.set_cons_zero, List.set_cons_succ]
            refine' wpAnyH_take (i := 10) (v := (.int .i64 Y)) rfl (by kernel_rfl) (by kernel_rfl) (by kernel_rfl) (fun _ _ _ h => h) (Or.inl ⟨by rfl, ?hy1x520⟩) hHeld ?hn1x520
            case hy1x520 => (intro wz hSw; have k := cell_later hSw cw; go_simp)
            try simp only [List.getElem_toArray, List.getElem_cons_zero, List.getElem_cons_succ, Act.put, List.setIfInBounds_toArray, List.set_cons_zero, List.set_cons_succ]
            refine' wpAnyH_take (i := 11) (v := _) rfl (by kernel_rfl) (by kernel_rfl) (by kernel_rfl) (fun _ _ _ h => h) (Or.inl ⟨by rfl, ?hy1x521⟩) hHeld ?hn1x521
            case hy1x521 => (intro wz hSw; (try dsimp only at hSw); go_simp; first | done | with_reducible rfl)
            try simp only [List.getElem_toArray, List.getElem_cons_zero, List.getElem_cons_succ, Act.put, List.setIfInBounds_toArray, List.set_cons_zero, List.set_cons_succ]
            refine' wpAnyH_take (i := 12) (v := _) rfl (by kernel_rfl) (by kernel_rfl) (by kernel_rfl) (fun _ _ _ h => h) (Or.inl ⟨by rfl, ?hy1x522⟩) hHeld ?hn1x522
            case hy1x522 => (intro wz hSw; (try dsimp only at hSw); go_simp; first | done | with_reducible rfl)
            try simp only [List.getElem_toArray, List.getElem_cons_zero, List.getElem_cons_succ, Act.put, List.setIfInBounds_toArray, List.set_cons_zero, List.set_cons_succ]
            refine' wpAnyH_take (i := 13) (v := _) rfl (by kernel_rfl) (by kernel_rfl) (by kernel_rfl) (fun _ _ _ h => h) (Or.inl ⟨by rfl, ?hy1x523⟩) hHeld ?hn1x523
            case hy1x523 => (intro wz hSw; (try dsimp only at hSw); go_simp; first | done | with_reducible rfl)
            try simp only [List.getElem_toArray, List.getElem_cons_zero, List.getElem_cons_succ, Act.put, List.setIfInBounds_toArray, List.set_cons_zero, List.set_cons_succ]
            refine' wpAnyH_take (i := 14) (v := _) rfl (by kernel_rfl) (by kernel_rfl) (by kernel_rfl) (fun _ _ _ h => h) (Or.inl ⟨by rfl, ?hy1x524⟩) hHeld ?hn1x524
            case hy1x524 => (intro wz hSw; (try dsimp only at hSw); go_simp; first | done | with_reducible rfl)
            try simp only [List.getElem_toArray, List.getElem_cons_zero, List.getElem_cons_succ, Act.put, List.setIfInBounds_toArray, List.set_cons_zero, List.set_cons_succ]
            refine' wpAnyH_take (i := 15) (v := (.slice ub s.ws.length ubc)) rfl (by kernel_rfl) (by kernel_rfl) (by kernel_rfl) (fun _ _ _ h => h) (Or.inl ⟨by rfl, ?hy1x525⟩) hHeld ?hn1x525
            case hy1x525 => (intro wz hSw; have k := cell_later hSw ky1; go_simp)
            try simp only [List.getElem_toArray, List.getElem_cons_zero, List.getElem_cons_succ, Act.put, List.setIfInBounds_toArray, List.set_cons_zero, List.set_cons_succ]
            refine' wpAnyH_take (i := 16) (v := _) rfl (by kernel_rfl) (by kernel_rfl) (by kernel_rfl) (fun _ _ _ h => h) (Or.inl ⟨by rfl, ?hy1x526⟩) hHeld ?hn1x526
            case hy1x526 => (intro wz hSw; (try dsimp only at hSw); go_simp; first | done | with_reducible rfl)
            try simp only [List.getElem_toArray, List.getElem_cons_zero, List.getElem_cons_succ, Act.put, List.setIfInBounds_toArray, List.set_cons_zero, List.set_cons_succ]
            refine' wpAnyH_take (i := 17) (v := (.bool false)) rfl (by kernel_rfl) (by kernel_rfl) (by kernel_rfl) (fun _ _ _ h => h) (Or.inl ⟨by rfl, ?hy1x527⟩) hHeld ?hn1x527
            case hy1x527 => (intro wz hSw; have h := HWL.out; go_simp; first | done | simp [h])
            try simp only [List.getElem_toArray, List.getElem_cons_zero, List.getElem_cons_succ, Act.put, List.setIfInBounds_toArray, List.set_cons_zero, List.set_cons_succ]
            refine' wpAnyH_take (i := 18) (v := _) rfl (by kernel_rfl) (by kernel_rfl) (by kernel_rfl) (fun _ _ _ h => h) (Or.inl ⟨by rfl, ?hy1x528⟩) hHeld ?hn1x528
            case hy1x528 => (intro wz hSw; (try dsimp only at hSw); go_simp; first | done | with_reducible rfl)
            try simp only [List.getElem_toArray, List.getElem_cons_zero, List.getElem_cons_succ, Act.put, List.setIfInBounds_toArray, List.set_cons_zero, List.set_cons_succ]
            refine wpAnyH_done (by kernel_rfl) ?_ _
            have HBq : Hid (Below wS.heap.size wS _) := Below.then HBr.out (Below.then HBF.out hHeld HBF.out.size) HBr.out.size
            clear hHeld
            go_wp2
            exact ⟨⟨i + 1, by omega, by simp, HBq.out⟩, by simp [intOf]; omega⟩
          · go_simp
            have CY := C3.new wV (.slice none 0 0) (.slice none 0 0) (.slice none 0 0) 44
            have AL : Below (wV).heap.size wV (World.alloc wV (.cells #[.slice none 0 0, .slice none 0 0, .slice none 0 0] 44)) := (Below.refl _ _).alloc (Nat.le_refl _) _
            obtain ⟨yb, hyb⟩ : ∃ yb, yb = (wV).heap.size := ⟨_, rfl⟩
            have hyl : yb < ((World.alloc wV (.cells #[.slice none 0 0, .slice none 0 0, .slice none 0 0] 44))).heap.size := by rw [hyb]; exact C3.lt CY
            have hy8 : wr.heap.size ≤ yb := by rw [hyb]; first | exact Nat.le_refl _ | exact hHeld.size
            rw [← hyb] at CY ⊢
            replace RV := RV.below AL
            clear hyb
            generalize (World.alloc wV (.cells #[.slice none 0 0, .slice none 0 0, .slice none 0 0] 44)) = wY at *
            refine hK.out _ _ (Below.then hHeld AL hHeld.size) (fun hHeld => ?_)
            clear hK K
            refine wpAnyH_ready (rs := [10]) (by kernel_rfl) (by simp) ?_
            refine AllReadyH.cons rfl (fun K hK => ?_) AllReadyH.nil
            have KR := runOf_any (HN4.out _ (Below.then HB4r.out hHeld HB4r.out.size)).1 RV (HN4.out _ (Below.then HB4r.out hHeld HB4r.out.size)).2
            rw [HVO.out, HS.out] at KR
            go_simp
            refine Calls.mono KR ?_
            rintro e' wR ⟨vua, vub, vuc, rfl, hbR, r3⟩
            clear KR
            obtain ⟨ua, uac, ha⟩ := rowg_slice r3.n
            obtain ⟨ub, ubc, hb⟩ := rowg_slice r3.ws
            obtain ⟨uc, ucc, hc⟩ := rowg_slice r3.ss
            subst ha hb hc
            have hne : ∀ b, (.slice ua s.n.length uac : Value).ownBlock = some b ∨ (.slice ub s.ws.length ubc : Value).ownBlock = some b ∨ (.slice uc s.ss.length ucc : Value).ownBlock = some b → b ≠ yb := by
              rintro b (h | h | h)
              · have := (World.ownsRow.lt r3.n b h).1; omega
              · have := (World.ownsRow.lt r3.ws b h).1; omega
              · have := (World.ownsRow.lt r3.ss b h).1; omega
            replace CY := C3.below CY hbR
            replace hyl := Nat.lt_of_lt_of_le hyl hbR.size
            refine hK.out _ _ (Below.then hHeld hbR hHeld.size) (fun hHeld => ?_)
            clear hK K
            refine' wpAnyH_take (i := 11) (v := _) rfl (by kernel_rfl) (by kernel_rfl) (by kernel_rfl) (fun _ _ _ h => h) (Or.inl ⟨by rfl, ?hy14⟩) hHeld ?hn14
            case hy14 => (intro wz hSw; go_simp; first | done | with_reducible rfl)
            try simp only [List.getElem_toArray, List.getElem_cons_zero, List.getElem_cons_succ, Act.put, List.setIfInBounds_toArray, List.set_cons_zero, List.set_cons_succ]
            refine' wpAnyH_take (i := 12) (v := _) rfl (by kernel_rfl) (by kernel_rfl) (by kernel_rfl) (fun _ _ _ h => h) (Or.inl ⟨by rfl, ?hy15⟩) hHeld ?hn15
            case hy15 => (intro wz hSw; go_simp; first | done | with_reducible rfl)
            try simp only [List.getElem_toArray, List.getElem_cons_zero, List.getElem_cons_succ, Act.put, List.setIfInBounds_toArray, List.set_cons_zero, List.set_cons_succ]
            refine' wpAnyH_take (i := 13) (v := _) rfl (by kernel_rfl) (by kernel_rfl) (by kernel_rfl) (fun _ _ _ h => h) (Or.inl ⟨by rfl, ?hy16⟩) hHeld ?hn16
            case hy16 => (intro wz hSw; go_simp; first | done | with_reducible rfl)
            try simp only [List.getElem_toArray, List.getElem_cons_zero, List.getElem_cons_succ, Act.put, List.setIfInBounds_toArray, List.set_cons_zero, List.set_cons_succ]
            refine wpAnyH_ready (rs := [15]) (by kernel_rfl) (by simp) ?_
            refine AllReadyH.cons rfl (fun K hK => ?_) AllReadyH.nil
            obtain ⟨⟨c0, c1, c2⟩, f0, f1, f2⟩ := id CY
            have GY : C3 ((((wR).setCell ⟨yb, 0, none⟩ (.slice ua s.n.length uac)).setCell ⟨yb, 1, none⟩ (.slice ub s.ws.length ubc)).setCell ⟨yb, 2, none⟩ (.slice uc s.ss.length ucc)) yb (.slice ua s.n.length uac) (.slice ub s.ws.length ubc) (.slice uc s.ss.length ucc) := ((CY.set0 _).set1 _).set2 _
            have RY := ((r3.far ⟨yb, 0, none⟩ (.slice ua s.n.length uac) (fun h => hne _ (.inl h) rfl) (fun h => hne _ (.inr (.inl h)) rfl) (fun h => hne _ (.inr (.inr h)) rfl)).far ⟨yb, 1, none⟩ (.slice ub s.ws.length ubc) (fun h => hne _ (.inl h) rfl) (fun h => hne _ (.inr (.inl h)) rfl) (fun h => hne _ (.inr (.inr h)) rfl)).far ⟨yb, 2, none⟩ (.slice uc s.ss.length ucc) (fun h => hne _ (.inl h) rfl) (fun h => hne _ (.inr (.inl h)) rfl) (fun h => hne _ (.inr (.inr h)) rfl)
            have BY : Below wr.heap.size wr ((((wR).setCell ⟨yb, 0, none⟩ (.slice ua s.n.length uac)).setCell ⟨yb, 1, none⟩ (.slice ub s.ws.length ubc)).setCell ⟨yb, 2, none⟩ (.slice uc s.ss.length ucc)) := ((hHeld.setCell hy8 _).setCell hy8 _).setCell hy8 _
            clear CY
            go_simp
            clear c0 c1 c2 f0 f1 f2
            generalize (((wR).setCell ⟨yb, 0, none⟩ (.slice ua s.n.length uac)).setCell ⟨yb, 1, none⟩ (.slice ub s.ws.length ubc)).setCell ⟨yb, 2, none⟩ (.slice uc s.ss.length ucc) = wF at GY RY BY ⊢
            refine hK.out _ _ (BY) (fun hHeld => ?_)
            clear hK K
            refine' wpAnyH_take (i := 16) (v := _) rfl (by kernel_rfl) (by kernel_rfl) (by kernel_rfl) (fun _ _ _ h => h) (Or.inl ⟨by rfl, ?hy17⟩) hHeld ?hn17
            case hy17 => (intro wz hSw; go_simp; first | done | with_reducible rfl)
            try simp only [List.getElem_toArray, List.getElem_cons_zero, List.getElem_cons_succ, Act.put, List.setIfInBounds_toArray, List.set_cons_zero, List.set_cons_succ]
            refine wpAnyH_done (by kernel_rfl) ?_ _
            clear hHeld
            have HYF : Hid (GRep (Value.int .i64) wF (.slice ua s.n.length uac) s.n) := RY.reps.1
            obtain ⟨ug, uo, hua⟩ : ∃ ug uo, ua = some ⟨ug, uo, none⟩ := by
              obtain ⟨a', c', hs', -, -, hcell'⟩ := HYF.out
              obtain ⟨b', off', h1', -⟩ := hcell' 0 (by have := HSL.out; omega)
              simp only [Value.slice.injEq] at hs'
              exact ⟨b', off', hs'.1.trans h1'⟩
            subst hua
            have cY : wF.cell? ⟨ug, uo, none⟩ = some (.int .i64 Y) := grep_at HYF.out (i := 0) HS0.out
            have hsl : 0 < s.n.length := by have := HSL.out; omega
            replace cw := cell_later BY cw
            obtain ⟨⟨ky0, ky1, ky2⟩, -⟩ := GY
            have HBF : Hid (Below wr.heap.size wr wF) := BY
            clear RY BY r3 hne
            go_wp2_with fail
            refine wp_region_held (S := (fun wz => Below wF.heap.size wF wz)) (by kernel_rfl) ?_
            change wpAnyH _ _ _ _ _ _ _ _ (World.drew _)
            have hHeld := (Below.refl wF.heap.size wF).drew
            refine' wpAnyH_take (i := 0) (v := _) rfl (by kernel_rfl) (by kernel_rfl) (by kernel_rfl) (fun _ _ _ h => h) (Or.inl ⟨by rfl, ?hy2x510⟩) hHeld ?hn2x510
            case hy2x510 => (intro wz hSw; (try dsimp only at hSw); go_simp; first | done | with_reducible rfl)
            try simp only [List.getElem_toArray, List.getElem_cons_zero, List.getElem_cons_succ, Act.put, List.setIfInBounds_toArray, List.set_cons_zero, List.set_cons_succ]
            refine' wpAnyH_take (i := 1) (v := _) rfl (by kernel_rfl) (by kernel_rfl) (by kernel_rfl) (fun _ _ _ h => h) (Or.inl ⟨by rfl, ?hy2x511⟩) hHeld ?hn2x511
            case hy2x511 => (intro wz hSw; (try dsimp only at hSw); go_simp; first | done | with_reducible rfl)
            try simp only [List.getElem_toArray, List.getElem_cons_zero, List.getElem_cons_succ, Act.put, List.setIfInBounds_toArray, List.set_cons_zero, List.set_cons_succ]
            refine' wpAnyH_take (i := 2) (v := _) rfl (by kernel_rfl) (by kernel_rfl) (by kernel_rfl) (fun _ _ _ h => h) (Or.inl ⟨by rfl, ?hy2x512⟩) hHeld ?hn2x512
            case hy2x512 => (intro wz hSw; (try dsimp only at hSw); go_simp; first | done | with_reducible rfl)
            try simp only [List.getElem_toArray, List.getElem_cons_zero, List.getElem_cons_succ, Act.put, List.setIfInBounds_toArray, List.set_cons_zero, List.set_cons_succ]
            refine' wpAnyH_take (i := 3) (v := _) rfl (by kernel_rfl) (by kernel_rfl) (by kernel_rfl) (fun _ _ _ h => h) (Or.inl ⟨by rfl, ?hy2x513⟩) hHeld ?hn2x513
            case hy2x513 => (intro wz hSw; (try dsimp only at hSw); go_simp; first | done | with_reducible rfl)
            try simp only [List.getElem_toArray, List.getElem_cons_zero, List.getElem_cons_succ, Act.put, List.setIfInBounds_toArray, List.set_cons_zero, List.set_cons_succ]
            refine' wpAnyH_take (i := 4) (v := (.slice (some ⟨ug, uo, none⟩) s.n.length uac)) rfl (by kernel_rfl) (by kernel_rfl) (by kernel_rfl) (fun _ _ _ h => h) (Or.inl ⟨by rfl, ?hy2x514⟩) hHeld ?hn2x514
            case hy2x514 => (intro wz hSw; have k := cell_later hSw ky0; go_simp)
            try simp only [List.getElem_toArray, List.getElem_cons_zero, List.getElem_cons_succ, Act.put, List.setIfInBounds_toArray, List.set_cons_zero, List.set_cons_succ]
            refine' wpAnyH_take (i := 5) (v := _) rfl (by kernel_rfl) (by kernel_rfl) (by kernel_rfl) (fun _ _ _ h => h) (Or.inl ⟨by rfl, ?hy2x515⟩) hHeld ?hn2x515
            case hy2x515 => (intro wz hSw; go_simp; first | done | with_reducible rfl | simp)
            try simp only [List.getElem_toArray, List.getElem_cons_zero, List.getElem_cons_succ, Act.put, List.setIfInBounds_toArray, List.set_cons_zero, List.set_cons_succ]
            refine' wpAnyH_take (i := 6) (v := (.int .i64 Y)) rfl (by kernel_rfl) (by kernel_rfl) (by kernel_rfl) (fun _ _ _ h => h) (Or.inl ⟨by rfl, ?hy2x516⟩) hHeld ?hn2x516
            case hy2x516 => (intro wz hSw; have k := cell_later hSw cY; go_simp)
            try simp only [List.getElem_toArray, List.getElem_cons_zero, List.getElem_cons_succ, Act.put, List.setIfInBounds_toArray, List.set_cons_zero, List.set_cons_succ]
            refine' wpAnyH_take (i := 7) (v := _) rfl (by kernel_rfl) (by kernel_rfl) (by kernel_rfl) (fun _ _ _ h => h) (Or.inl ⟨by rfl, ?hy2x517⟩) hHeld ?hn2x517
            case hy2x517 => (intro wz hSw; (try dsimp only at hSw); go_simp; first | done | with_reducible rfl)
            try simp only [List.getElem_toArray, List.getElem_cons_zero, List.getElem_cons_succ, Act.put, List.setIfInBounds_toArray, List.set_cons_zero, List.set_cons_succ]
            refine' wpAnyH_take (i := 8) (v := _) rfl (by kernel_rfl) (by kernel_rfl) (by kernel_rfl) (fun _ _ _ h => h) (Or.inl ⟨by rfl, ?hy2x518⟩) hHeld ?hn2x518
            case hy2x518 => (intro wz hSw; (try dsimp only at hSw); go_simp; first | done | with_reducible rfl)
            try simp only [List.getElem_toArray, List.getElem_cons_zero, List.getElem_cons_succ, Act.put, List.setIfInBounds_toArray, List.set_cons_zero, List.set_cons_succ]
            refine' wpAnyH_take (i := 9) (v := _) rfl (by kernel_rfl) (by kernel_rfl) (by kernel_rfl) (fun _ _ _ h => h) (Or.inl ⟨by rfl, ?hy2x519⟩) hHeld ?hn2x519
            case hy2x519 => (intro wz hSw; go_simp; first | done | with_reducible rfl | simp)
            try simp only [List.getElem_toArray, List.getElem_cons_zero, List.getElem_cons_succ, Act.put, List.setIfInBounds_toArray, List.set_cons_zero, List.set_cons_succ]
            refine' wpAnyH_take (i := 10) (v := (.int .i64 Y)) rfl (by kernel_rfl) (by kernel_rfl) (by kernel_rfl) (fun _ _ _ h => h) (Or.inl ⟨by rfl, ?hy2x520⟩) hHeld ?hn2x520
            case hy2x520 => (intro wz hSw; have k := cell_later hSw cw; go_simp)
            try simp only [List.getElem_toArray, List.getElem_cons_zero, List.getElem_cons_succ, Act.put, List.setIfInBounds_toArray, List.set_cons_zero, List.set_cons_succ]
            refine' wpAnyH_take (i := 11) (v := _) rfl (by kernel_rfl) (by kernel_rfl) (by kernel_rfl) (fun _ _ _ h => h) (Or.inl ⟨by rfl, ?hy2x521⟩) hHeld ?hn2x521
            case hy2x521 => (intro wz hSw; (try dsimp only at hSw); go_simp; first | done | with_reducible rfl)
            try simp only [List.getElem_toArray, List.getElem_cons_zero, List.getElem_cons_succ, Act.put, List.setIfInBounds_toArray, List.set_cons_zero, List.set_cons_succ]
            refine' wpAnyH_take (i := 12) (v := _) rfl (by kernel_rfl) (by kernel_rfl) (by kernel_rfl) (fun _ _ _ h => h) (Or.inl ⟨by rfl, ?hy2x522⟩) hHeld ?hn2x522
            case hy2x522 => (intro wz hSw; (try dsimp only at hSw); go_simp; first | done | with_reducible rfl)
            try simp only [List.getElem_toArray, List.getElem_cons_zero, List.getElem_cons_succ, Act.put, List.setIfInBounds_toArray, List.set_cons_zero, List.set_cons_succ]
            refine' wpAnyH_take (i := 13) (v := _) rfl (by kernel_rfl) (by kernel_rfl) (by kernel_rfl) (fun _ _ _ h => h) (Or.inl ⟨by rfl, ?hy2x523⟩) hHeld ?hn2x523
            case hy2x523 => (intro wz hSw; (try dsimp only at hSw); go_simp; first | done | with_reducible rfl)
            try simp only [List.getElem_toArray, List.getElem_cons_zero, List.getElem_cons_succ, Act.put, List.setIfInBounds_toArray, List.set_cons_zero, List.set_cons_succ]
            refine' wpAnyH_take (i := 14) (v := _) rfl (by kernel_rfl) (by kernel_rfl) (by kernel_rfl) (fun _ _ _ h => h) (Or.inl ⟨by rfl, ?hy2x524⟩) hHeld ?hn2x524
            case hy2x524 => (intro wz hSw; (try dsimp only at hSw); go_simp; first | done | with_reducible rfl)
            try simp only [List.getElem_toArray, List.getElem_cons_zero, List.getElem_cons_succ, Act.put, List.setIfInBounds_toArray, List.set_cons_zero, List.set_cons_succ]
            refine' wpAnyH_take (i := 15) (v := (.slice ub s.ws.length ubc)) rfl (by kernel_rfl) (by kernel_rfl) (by kernel_rfl) (fun _ _ _ h => h) (Or.inl ⟨by rfl, ?hy2x525⟩) hHeld ?hn2x525
            case hy2x525 => (intro wz hSw; have k := cell_later hSw ky1; go_simp)
            try simp only [List.getElem_toArray, List.getElem_cons_zero, List.getElem_cons_succ, Act.put, List.setIfInBounds_toArray, List.set_cons_zero, List.set_cons_succ]
            refine' wpAnyH_take (i := 16) (v := _) rfl (by kernel_rfl) (by kernel_rfl) (by kernel_rfl) (fun _ _ _ h => h) (Or.inl ⟨by rfl, ?hy2x526⟩) hHeld ?hn2x526
            case hy2x526 => (intro wz hSw; (try dsimp only at hSw); go_simp; first | done | with_reducible rfl)
            try simp only [List.getElem_toArray, List.getElem_cons_zero, List.getElem_cons_succ, Act.put, List.setIfInBounds_toArray, List.set_cons_zero, List.set_cons_succ]
            refine' wpAnyH_take (i := 17) (v := (.bool false)) rfl (by kernel_rfl) (by kernel_rfl) (by kernel_rfl) (fun _ _ _ h => h) (Or.inl ⟨by rfl, ?hy2x527⟩) hHeld ?hn2x527
            case hy2x527 => (intro wz hSw; have h := HWL.out; go_simp; first | done | simp [h])
            try simp only [List.getElem_toArray, List.getElem_cons_zero, List.getElem_cons_succ, Act.put, List.setIfInBounds_toArray, List.set_cons_zero, List.set_cons_succ]
            refine' wpAnyH_take (i := 18) (v := _) rfl (by kernel_rfl) (by kernel_rfl) (by kernel_rfl) (fun _ _ _ h => h) (Or.inl ⟨by rfl, ?hy2x528⟩) hHeld ?hn2x528
            case hy2x528 => (intro wz hSw; (try dsimp only at hSw); go_simp; first | done | with_reducible rfl)
            try simp only [List.getElem_toArray, List.getElem_cons_zero, List.getElem_cons_succ, Act.put, List.setIfInBounds_toArray, List.set_cons_zero, List.set_cons_succ]
            refine wpAnyH_done (by kernel_rfl) ?_ _
            have HBq : Hid (Below wS.heap.size wS _) := Below.then HBr.out (Below.then HBF.out hHeld HBF.out.size) HBr.out.size
            clear hHeld
            go_wp2
            exact ⟨⟨i + 1, by omega, by simp, HBq.out⟩, by simp [intOf]; omega⟩
        · go_simp
          have CY := C3.new wr (.slice none 0 0) (.slice none 0 0) (.slice none 0 0) 44
          have AL : Below wr.heap.size wr (World.drew (World.alloc wr (.cells #[.slice none 0 0, .slice none 0 0, .slice none 0 0] 44))) := ((Below.refl _ _).alloc (Nat.le_refl _) _).drew
          replace CY := C3.below CY (Below.drew (Below.refl _ _))
          obtain ⟨yb, hyb⟩ : ∃ yb, yb = (wr).heap.size := ⟨_, rfl⟩
          have hyl : yb < ((World.drew (World.alloc wr (.cells #[.slice none 0 0, .slice none 0 0, .slice none 0 0] 44)))).heap.size := by rw [hyb]; exact C3.lt CY
          have hy8 : wr.heap.size ≤ yb := by rw [hyb]; first | exact Nat.le_refl _ | exact hHeld.size
          rw [← hyb] at CY ⊢
          clear hyb
          generalize (World.drew (World.alloc wr (.cells #[.slice none 0 0, .slice none 0 0, .slice none 0 0] 44))) = wY at *
          refine hK.out _ _ (AL) (fun hHeld => ?_)
          clear hK K
          refine wpAnyH_ready (rs := [7]) (by kernel_rfl) (by simp) ?_
          refine AllReadyH.cons rfl (fun K hK => ?_) AllReadyH.nil
          go_simp
          have RV := rep_oneV wY vk va vb 32
          have AL : Below (wY).heap.size wY (World.alloc wY (.cells #[.int .i64 1, .int .i64 0, .int .i64 vk, .int .i64 va, .int .i64 vb, .int .i64 0, .slice none 0 0, .slice none 0 0] 32)) := (Below.refl _ _).alloc (Nat.le_refl _) _
          obtain ⟨pb, hpb⟩ : ∃ x, x = (wY).heap.size := ⟨_, rfl⟩
          rw [← hpb] at RV ⊢
          replace CY := C3.below CY AL
          replace hyl := Nat.lt_of_lt_of_le hyl AL.size
          clear hpb
          generalize (World.alloc wY (.cells #[.int .i64 1, .int .i64 0, .int .i64 vk, .int .i64 va, .int .i64 vb, .int .i64 0, .slice none 0 0, .slice none 0 0] 32)) = wV at *
          refine hK.out _ _ (Below.then hHeld AL hHeld.size) (fun hHeld => ?_)
          clear hK K
          refine' wpAnyH_take (i := 8) (v := _) rfl (by kernel_rfl) (by kernel_rfl) (by kernel_rfl) (fun _ _ _ h => h) (Or.inl ⟨by rfl, ?hy18⟩) hHeld ?hn18
          case hy18 => (intro wz hSw; go_simp; first | done | with_reducible rfl)
          try simp only [List.getElem_toArray, List.getElem_cons_zero, List.getElem_cons_succ, Act.put, List.setIfInBounds_toArray, List.set_cons_zero, List.set_cons_succ]
          refine wpAnyH_ready (rs := [10]) (by kernel_rfl) (by simp) ?_
          refine AllReadyH.cons rfl (fun K hK => ?_) AllReadyH.nil
          have KR := runOf_any (HN4.out _ (Below.then HB4r.out hHeld HB4r.out.size)).1 RV (HN4.out _ (Below.then HB4r.out hHeld HB4r.out.size)).2
          rw [HVO.out, HS.out] at KR
          go_simp
          refine Calls.mono KR ?_
          rintro e' wR ⟨vua, vub, vuc, rfl, hbR, r3⟩
          clear KR
          obtain ⟨ua, uac, ha⟩ := rowg_slice r3.n
          obtain ⟨ub, ubc, hb⟩ := rowg_slice r3.ws
          obtain ⟨uc, ucc, hc⟩ := rowg_slice r3.ss
          subst ha hb hc
          have hne : ∀ b, (.slice ua s.n.length uac : Value).ownBlock = some b ∨ (.slice ub s.ws.length ubc : Value).ownBlock = some b ∨ (.slice uc s.ss.length ucc : Value).ownBlock = some b → b ≠ yb := by
            rintro b (h | h | h)
            · have := (World.ownsRow.lt r3.n b h).1; omega
            · have := (World.ownsRow.lt r3.ws b h).1; omega
            · have := (World.ownsRow.lt r3.ss b h).1; omega
          replace CY := C3.below CY hbR
          replace hyl := Nat.lt_of_lt_of_le hyl hbR.size
          refine hK.out _ _ (Below.then hHeld hbR hHeld.size) (fun hHeld => ?_)
          clear hK K
          refine' wpAnyH_take (i := 11) (v := _) rfl (by kernel_rfl) (by kernel_rfl) (by kernel_rfl) (fun _ _ _ h => h) (Or.inl ⟨by rfl, ?hy19⟩) hHeld ?hn19
          case hy19 => (intro wz hSw; go_simp; first | done | with_reducible rfl)
          try simp only [List.getElem_toArray, List.getElem_cons_zero, List.getElem_cons_succ, Act.put, List.setIfInBounds_toArray, List.set_cons_zero, List.set_cons_succ]
          refine' wpAnyH_take (i := 12) (v := _) rfl (by kernel_rfl) (by kernel_rfl) (by kernel_rfl) (fun _ _ _ h => h) (Or.inl ⟨by rfl, ?hy20⟩) hHeld ?hn20
          case hy20 => (intro wz hSw; go_simp; first | done | with_reducible rfl)
          try simp only [List.getElem_toArray, List.getElem_cons_zero, List.getElem_cons_succ, Act.put, List.setIfInBounds_toArray, List.set_cons_zero, List.set_cons_succ]
          refine' wpAnyH_take (i := 13) (v := _) rfl (by kernel_rfl) (by kernel_rfl) (by kernel_rfl) (fun _ _ _ h => h) (Or.inl ⟨by rfl, ?hy21⟩) hHeld ?hn21
          case hy21 => (intro wz hSw; go_simp; first | done | with_reducible rfl)
          try simp only [List.getElem_toArray, List.getElem_cons_zero, List.getElem_cons_succ, Act.put, List.setIfInBounds_toArray, List.set_cons_zero, List.set_cons_succ]
          refine wpAnyH_ready (rs := [15]) (by kernel_rfl) (by simp) ?_
          refine AllReadyH.cons rfl (fun K hK => ?_) AllReadyH.nil
          obtain ⟨⟨c0, c1, c2⟩, f0, f1, f2⟩ := id CY
          have GY : C3 ((((wR).setCell ⟨yb, 0, none⟩ (.slice ua s.n.length uac)).setCell ⟨yb, 1, none⟩ (.slice ub s.ws.length ubc)).setCell ⟨yb, 2, none⟩ (.slice uc s.ss.length ucc)) yb (.slice ua s.n.length uac) (.slice ub s.ws.length ubc) (.slice uc s.ss.length ucc) := ((CY.set0 _).set1 _).set2 _
          have RY := ((r3.far ⟨yb, 0, none⟩ (.slice ua s.n.length uac) (fun h => hne _ (.inl h) rfl) (fun h => hne _ (.inr (.inl h)) rfl) (fun h => hne _ (.inr (.inr h)) rfl)).far ⟨yb, 1, none⟩ (.slice ub s.ws.length ubc) (fun h => hne _ (.inl h) rfl) (fun h => hne _ (.inr (.inl h)) rfl) (fun h => hne _ (.inr (.inr h)) rfl)).far ⟨yb, 2, none⟩ (.slice uc s.ss.length ucc) (fun h => hne _ (.inl h) rfl) (fun h => hne _ (.inr (.inl h)) rfl) (fun h => hne _ (.inr (.inr h)) rfl)
          have BY : Below wr.heap.size wr ((((wR).setCell ⟨yb, 0, none⟩ (.slice ua s.n.length uac)).setCell ⟨yb, 1, none⟩ (.slice ub s.ws.length ubc)).setCell ⟨yb, 2, none⟩ (.slice uc s.ss.length ucc)) := ((hHeld.setCell hy8 _).setCell hy8 _).setCell hy8 _
          clear CY
          go_simp
          clear c0 c1 c2 f0 f1 f2
          generalize (((wR).setCell ⟨yb, 0, none⟩ (.slice ua s.n.length uac)).setCell ⟨yb, 1, none⟩ (.slice ub s.ws.length ubc)).setCell ⟨yb, 2, none⟩ (.slice uc s.ss.length ucc) = wF at GY RY BY ⊢
          refine hK.out _ _ (BY) (fun hHeld => ?_)
          clear hK K
          refine' wpAnyH_take (i := 16) (v := _) rfl (by kernel_rfl) (by kernel_rfl) (by kernel_rfl) (fun _ _ _ h => h) (Or.inl ⟨by rfl, ?hy22⟩) hHeld ?hn22
          case hy22 => (intro wz hSw; go_simp; first | done | with_reducible rfl)
          try simp only [List.getElem_toArray, List.getElem_cons_zero, List.getElem_cons_succ, Act.put, List.setIfInBounds_toArray, List.set_cons_zero, List.set_cons_succ]
          refine wpAnyH_done (by kernel_rfl) ?_ _
          clear hHeld
          have HYF : Hid (GRep (Value.int .i64) wF (.slice ua s.n.length uac) s.n) := RY.reps.1
          obtain ⟨ug, uo, hua⟩ : ∃ ug uo, ua = some ⟨ug, uo, none⟩ := by
            obtain ⟨a', c', hs', -, -, hcell'⟩ := HYF.out
            obtain ⟨b', off', h1', -⟩ := hcell' 0 (by have := HSL.out; omega)
            simp only [Value.slice.injEq] at hs'
            exact ⟨b', off', hs'.1.trans h1'⟩
          subst hua
          have cY : wF.cell? ⟨ug, uo, none⟩ = some (.int .i64 Y) := grep_at HYF.out (i := 0) HS0.out
          have hsl : 0 < s.n.length := by have := HSL.out; omega
          replace cw := cell_later BY cw
          obtain ⟨⟨ky0, ky1, ky2⟩, -⟩ := GY
          have HBF : Hid (Below wr.heap.size wr wF) := BY
          clear RY BY r3 hne
          go_wp2_with fail
          refine wp_region_held (S := (fun wz => Below wF.heap.size wF wz)) (by kernel_rfl) ?_
          change wpAnyH _ _ _ _ _ _ _ _ (World.drew _)
          have hHeld := (Below.refl wF.heap.size wF).drew
          refine' wpAnyH_take (i := 0) (v := _) rfl (by kernel_rfl) (by kernel_rfl) (by kernel_rfl) (fun _ _ _ h => h) (Or.inl ⟨by rfl, ?hy3x510⟩) hHeld ?hn3x510
          case hy3x510 => (intro wz hSw; (try dsimp only at hSw); go_simp; first | done | with_reducible rfl)
          try simp only [List.getElem_toArray, List.getElem_cons_zero, List.getElem_cons_succ, Act.put, List.setIfInBounds_toArray, List.set_cons_zero, List.set_cons_succ]
          refine' wpAnyH_take (i := 1) (v := _) rfl (by kernel_rfl) (by kernel_rfl) (by kernel_rfl) (fun _ _ _ h => h) (Or.inl ⟨by rfl, ?hy3x511⟩) hHeld ?hn3x511
          case hy3x511 => (intro wz hSw; (try dsimp only at hSw); go_simp; first | done | with_reducible rfl)
          try simp only [List.getElem_toArray, List.getElem_cons_zero, List.getElem_cons_succ, Act.put, List.setIfInBounds_toArray, List.set_cons_zero, List.set_cons_succ]
          refine' wpAnyH_take (i := 2) (v := _) rfl (by kernel_rfl) (by kernel_rfl) (by kernel_rfl) (fun _ _ _ h => h) (Or.inl ⟨by rfl, ?hy3x512⟩) hHeld ?hn3x512
          case hy3x512 => (intro wz hSw; (try dsimp only at hSw); go_simp; first | done | with_reducible rfl)
          try simp only [List.getElem_toArray, List.getElem_cons_zero, List.getElem_cons_succ, Act.put, List.setIfInBounds_toArray, List.set_cons_zero, List.set_cons_succ]
          refine' wpAnyH_take (i := 3) (v := _) rfl (by kernel_rfl) (by kernel_rfl) (by kernel_rfl) (fun _ _ _ h => h) (Or.inl ⟨by rfl, ?hy3x513⟩) hHeld ?hn3x513
          case hy3x513 => (intro wz hSw; (try dsimp only at hSw); go_simp; first | done | with_reducible rfl)
          try simp only [List.getElem_toArray, List.getElem_cons_zero, List.getElem_cons_succ, Act.put, List.setIfInBounds_toArray, List.set_cons_zero, List.set_cons_succ]
          refine' wpAnyH_take (i := 4) (v := (.slice (some ⟨ug, uo, none⟩) s.n.length uac)) rfl (by kernel_rfl) (by kernel_rfl) (by kernel_rfl) (fun _ _ _ h => h) (Or.inl ⟨by rfl, ?hy3x514⟩) hHeld ?hn3x514
          case hy3x514 => (intro wz hSw; have k := cell_later hSw ky0; go_simp)
          try simp only [List.getElem_toArray, List.getElem_cons_zero, List.getElem_cons_succ, Act.put, List.setIfInBounds_toArray, List.set_cons_zero, List.set_cons_succ]
          refine' wpAnyH_take (i := 5) (v := _) rfl (by kernel_rfl) (by kernel_rfl) (by kernel_rfl) (fun _ _ _ h => h) (Or.inl ⟨by rfl, ?hy3x515⟩) hHeld ?hn3x515
          case hy3x515 => (intro wz hSw; go_simp; first | done | with_reducible rfl | simp)
          try simp only [List.getElem_toArray, List.getElem_cons_zero, List.getElem_cons_succ, Act.put, List.setIfInBounds_toArray, List.set_cons_zero, List.set_cons_succ]
          refine' wpAnyH_take (i := 6) (v := (.int .i64 Y)) rfl (by kernel_rfl) (by kernel_rfl) (by kernel_rfl) (fun _ _ _ h => h) (Or.inl ⟨by rfl, ?hy3x516⟩) hHeld ?hn3x516
          case hy3x516 => (intro wz hSw; have k := cell_later hSw cY; go_simp)
          try simp only [List.getElem_toArray, List.getElem_cons_zero, List.getElem_cons_succ, Act.put, List.setIfInBounds_toArray, List.set_cons_zero, List.set_cons_succ]
          refine' wpAnyH_take (i := 7) (v := _) rfl (by kernel_rfl) (by kernel_rfl) (by kernel_rfl) (fun _ _ _ h => h) (Or.inl ⟨by rfl, ?hy3x517⟩) hHeld ?hn3x517
          case hy3x517 => (intro wz hSw; (try dsimp only at hSw); go_simp; first | done | with_reducible rfl)
          try simp only [List.getElem_toArray, List.getElem_cons_zero, List.getElem_cons_succ, Act.put, List.setIfInBounds_toArray, List.set_cons_zero, List.set_cons_succ]
          refine' wpAnyH_take (i := 8) (v := _) rfl (by kernel_rfl) (by kernel_rfl) (by kernel_rfl) (fun _ _ _ h => h) (Or.inl ⟨by rfl, ?hy3x518⟩) hHeld ?hn3x518
          case hy3x518 => (intro wz hSw; (try dsimp only at hSw); go_simp; first | done | with_reducible rfl)
          try simp only [List.getElem_toArray, List.getElem_cons_zero, List.getElem_cons_succ, Act.put, List.setIfInBounds_toArray, List.set_cons_zero, List.set_cons_succ]
          refine' wpAnyH_take (i := 9) (v := _) rfl (by kernel_rfl) (by kernel_rfl) (by kernel_rfl) (fun _ _ _ h => h) (Or.inl ⟨by rfl, ?hy3x519⟩) hHeld ?hn3x519
          case hy3x519 => (intro wz hSw; go_simp; first | done | with_reducible rfl | simp)
          try simp only [List.getElem_toArray, List.getElem_cons_zero, List.getElem_cons_succ, Act.put, List.setIfInBounds_toArray, List.set_cons_zero, List.set_cons_succ]
          refine' wpAnyH_take (i := 10) (v := (.int .i64 Y)) rfl (by kernel_rfl) (by kernel_rfl) (by kernel_rfl) (fun _ _ _ h => h) (Or.inl ⟨by rfl, ?hy3x520⟩) hHeld ?hn3x520
          case hy3x520 => (intro wz hSw; have k := cell_later hSw cw; go_simp)
          try simp only [List.getElem_toArray, List.getElem_cons_zero, List.getElem_cons_succ, Act.put, List.setIfInBounds_toArray, List.set_cons_zero, List.set_cons_succ]
          refine' wpAnyH_take (i := 11) (v := _) rfl (by kernel_rfl) (by kernel_rfl) (by kernel_rfl) (fun _ _ _ h => h) (Or.inl ⟨by rfl, ?hy3x521⟩) hHeld ?hn3x521
          case hy3x521 => (intro wz hSw; (try dsimp only at hSw); go_simp; first | done | with_reducible rfl)
          try simp only [List.getElem_toArray, List.getElem_cons_zero, List.getElem_cons_succ, Act.put, List.setIfInBounds_toArray, List.set_cons_zero, List.set_cons_succ]
          refine' wpAnyH_take (i := 12) (v := _) rfl (by kernel_rfl) (by kernel_rfl) (by kernel_rfl) (fun _ _ _ h => h) (Or.inl ⟨by rfl, ?hy3x522⟩) hHeld ?hn3x522
          case hy3x522 => (intro wz hSw; (try dsimp only at hSw); go_simp; first | done | with_reducible rfl)
          try simp only [List.getElem_toArray, List.getElem_cons_zero, List.getElem_cons_succ, Act.put, List.setIfInBounds_toArray, List.set_cons_zero, List.set_cons_succ]
          refine' wpAnyH_take (i := 13) (v := _) rfl (by kernel_rfl) (by kernel_rfl) (by kernel_rfl) (fun _ _ _ h => h) (Or.inl ⟨by rfl, ?hy3x523⟩) hHeld ?hn3x523
          case hy3x523 => (intro wz hSw; (try dsimp only at hSw); go_simp; first | done | with_reducible rfl)
          try simp only [List.getElem_toArray, List.getElem_cons_zero, List.getElem_cons_succ, Act.put, List.setIfInBounds_toArray, List.set_cons_zero, List.set_cons_succ]
          refine' wpAnyH_take (i := 14) (v := _) rfl (by kernel_rfl) (by kernel_rfl) (by kernel_rfl) (fun _ _ _ h => h) (Or.inl ⟨by rfl, ?hy3x524⟩) hHeld ?hn3x524
          case hy3x524 => (intro wz hSw; (try dsimp only at hSw); go_simp; first | done | with_reducible rfl)
          try simp only [List.getElem_toArray, List.getElem_cons_zero, List.getElem_cons_succ, Act.put, List.setIfInBounds_toArray, List.set_cons_zero, List.set_cons_succ]
          refine' wpAnyH_take (i := 15) (v := (.slice ub s.ws.length ubc)) rfl (by kernel_rfl) (by kernel_rfl) (by kernel_rfl) (fun _ _ _ h => h) (Or.inl ⟨by rfl, ?hy3x525⟩) hHeld ?hn3x525
          case hy3x525 => (intro wz hSw; have k := cell_later hSw ky1; go_simp)
          try simp only [List.getElem_toArray, List.getElem_cons_zero, List.getElem_cons_succ, Act.put, List.setIfInBounds_toArray, List.set_cons_zero, List.set_cons_succ]
          refine' wpAnyH_take (i := 16) (v := _) rfl (by kernel_rfl) (by kernel_rfl) (by kernel_rfl) (fun _ _ _ h => h) (Or.inl ⟨by rfl, ?hy3x526⟩) hHeld ?hn3x526
          case hy3x526 => (intro wz hSw; (try dsimp only at hSw); go_simp; first | done | with_reducible rfl)
          try simp only [List.getElem_toArray, List.getElem_cons_zero, List.getElem_cons_succ, Act.put, List.setIfInBounds_toArray, List.set_cons_zero, List.set_cons_succ]
          refine' wpAnyH_take (i := 17) (v := (.bool false)) rfl (by kernel_rfl) (by kernel_rfl) (by kernel_rfl) (fun _ _ _ h => h) (Or.inl ⟨by rfl, ?hy3x527⟩) hHeld ?hn3x527
          case hy3x527 => (intro wz hSw; have h := HWL.out; go_simp; first | done | simp [h])
          try simp only [List.getElem_toArray, List.getElem_cons_zero, List.getElem_cons_succ, Act.put, List.setIfInBounds_toArray, List.set_cons_zero, List.set_cons_succ]
          refine' wpAnyH_take (i := 18) (v := _) rfl (by kernel_rfl) (by kernel_rfl) (by kernel_rfl) (fun _ _ _ h => h) (Or.inl ⟨by rfl, ?hy3x528⟩) hHeld ?hn3x528
          case hy3x528 => (intro wz hSw; (try dsimp only at hSw); go_simp; first | done | with_reducible rfl)
          try simp only [List.getElem_toArray, List.getElem_cons_zero, List.getElem_cons_succ, Act.put, List.setIfInBounds_toArray, List.set_cons_zero, List.set_cons_succ]
          refine wpAnyH_done (by kernel_rfl) ?_ _
          have HBq : Hid (Below wS.heap.size wS _) := Below.then HBr.out (Below.then HBF.out hHeld HBF.out.size) HBr.out.size
          clear hHeld
          go_wp2
          exact ⟨⟨i + 1, by omega, by simp, HBq.out⟩, by simp [intOf]; omega⟩
      · have HBr : Hid (Below wS.heap.size wS wr) := hbr
        have : i = 4 := by omega
        subst this
        clear hbr
        go_wp2
        go_ret
        exact ⟨rfl, Below.then HB1.out (Below.then HB4.out (Below.then HBS.out HBr.out HBS.out.size) HB4.out.size) HB1.out.size⟩
  · have HSM : Hid (numV 4 (a : Int) (b : Int) zs = 1) := (show numV 4 (a : Int) (b : Int) zs = 1 by
      have h := HSB.out
      have ha : zs.getD a 0 = Za := by rw [List.getD_eq_getElem?_getD, HZA.out]; rfl
      have hb : zs.getD b 0 = Zb := by rw [List.getD_eq_getElem?_getD, HZB.out]; rfl
      unfold numV
      rw [if_neg (by decide), if_neg (by decide), if_neg (by decide), Int.toNat_natCast, Int.toNat_natCast, ha, hb]
      exact if_pos (of_decide_eq_true h))
    obtain ⟨wS, hwS⟩ : ∃ x, x = World.drew (World.drew (wA.alloc (.cells #[.int .i64 M, .int .i64 Za, .int .i64 Y2, .int .i64 (1 : Int)] 3))) := ⟨_, rfl⟩
    have HWS : Hid _ := hwS
    have BAS : Below wA.heap.size wA wS := by rw [hwS]; exact (((Below.refl _ _).alloc (Nat.le_refl _) _).drew).drew
    have HBS : Hid (Below w4.heap.size w4 wS) := Below.then HBA.out BAS HBA.out.size
    have HVF : Hid (∀ i, i < 4 → ∃ vk va vb Y, wS.cell? ⟨w4.heap.size, i * 3, none⟩ = some (.int .i64 vk) ∧ wS.cell? ⟨w4.heap.size, i * 3 + 1, none⟩ = some (.int .i64 va) ∧ wS.cell? ⟨w4.heap.size, i * 3 + 2, none⟩ = some (.int .i64 vb) ∧ wS.cell? ⟨wA.heap.size, i, none⟩ = some (.int .i64 Y) ∧ valB ls.length vk va vb = true ∧ numV vk va vb zs = Y) := (show ∀ i, i < 4 → ∃ vk va vb Y, wS.cell? ⟨w4.heap.size, i * 3, none⟩ = some (.int .i64 vk) ∧ wS.cell? ⟨w4.heap.size, i * 3 + 1, none⟩ = some (.int .i64 va) ∧ wS.cell? ⟨w4.heap.size, i * 3 + 2, none⟩ = some (.int .i64 vb) ∧ wS.cell? ⟨wA.heap.size, i, none⟩ = some (.int .i64 Y) ∧ valB ls.length vk va vb = true ∧ numV vk va vb zs = Y by
      have hA : ∀ k x, (#[.int .i64 1, .int .i64 M, .int .i64 0, .int .i64 2, .int .i64 (a : Int), .int .i64 0, .int .i64 3, .int .i64 (a : Int), .int .i64 (b : Int), .int .i64 4, .int .i64 (a : Int), .int .i64 (b : Int)] : Array Value)[k]? = some x → wS.cell? ⟨w4.heap.size, k, none⟩ = some x := fun k x hx => cell_later BAS (HCA.out k x hx)
      have hW : ∀ k x, (#[.int .i64 M, .int .i64 Za, .int .i64 Y2, .int .i64 (1 : Int)] : Array Value)[k]? = some x → wS.cell? ⟨wA.heap.size, k, none⟩ = some x := fun k x hx => by
        rw [hwS]
        have : (wA.alloc (.cells #[.int .i64 M, .int .i64 Za, .int .i64 Y2, .int .i64 (1 : Int)] 3)).cell? ⟨wA.heap.size, k, none⟩ = some x := by simp [hx]
        exact this
      have av : vIn (ls.length : Int) (a : Int) = true := by unfold vIn; simp; have := HZL.out; omega
      have bv : vIn (ls.length : Int) (b : Int) = true := by unfold vIn; simp; have := HZL.out; omega
      have mv : vIn 10 M = true := by unfold vIn; simp; exact HM0.out
      intro i hi
      match i, hi with
      | 0, _ => exact ⟨1, M, 0, M, hA 0 _ rfl, hA 1 _ rfl, hA 2 _ rfl, hW 0 _ rfl, by simp [valB, mv], by simp [numV]⟩
      | 1, _ => exact ⟨2, a, 0, Za, hA 3 _ rfl, hA 4 _ rfl, hA 5 _ rfl, hW 1 _ rfl, by simp [valB, av], by simp [numV, HZA.out]⟩
      | 2, _ => exact ⟨3, a, b, Y2, hA 6 _ rfl, hA 7 _ rfl, hA 8 _ rfl, hW 2 _ rfl, by simp [valB, av, bv], by simp [numV, HZA.out, HZB.out, HY2.out]⟩
      | 3, _ => exact ⟨4, a, b, 1, hA 9 _ rfl, hA 10 _ rfl, hA 11 _ rfl, hW 3 _ rfl, by simp [valB, av, bv], HSM.out⟩)
    have HP0S : Hid (wS.cell? ⟨w1.heap.size, 0, none⟩ = some (.slice la ls.length lc)) := cell_later HBS.out p0
    clear hwS BAS
    go_wp2_with fail
    refine wp_region_held (S := (fun wz => Below w4.heap.size w4 wz)) (by kernel_rfl) ?_
    change wpAnyH _ _ _ _ _ _ _ _ (World.drew _)
    have hHeld := ((HBA.out : Below w4.heap.size w4 wA).drew).drew
    refine' wpAnyH_take (i := 0) (v := _) rfl (by kernel_rfl) (by kernel_rfl) (by kernel_rfl) (fun _ _ _ h => h) (Or.inl ⟨by rfl, ?hy548⟩) hHeld ?hn548
    case hy548 => (intro wz hSw; (try dsimp only at hSw); go_simp; first | done | with_reducible rfl)
    try simp only [List.getElem_toArray, List.getElem_cons_zero, List.getElem_cons_succ, Act.put, List.setIfInBounds_toArray, List.set_cons_zero, List.set_cons_succ]
    refine' wpAnyH_take (i := 1) (v := _) rfl (by kernel_rfl) (by kernel_rfl) (by kernel_rfl) (fun _ _ _ h => h) (Or.inl ⟨by rfl, ?hy549⟩) hHeld ?hn549
    case hy549 => (intro wz hSw; (try dsimp only at hSw); go_simp; first | done | with_reducible rfl)
    try simp only [List.getElem_toArray, List.getElem_cons_zero, List.getElem_cons_succ, Act.put, List.setIfInBounds_toArray, List.set_cons_zero, List.set_cons_succ]
    refine' wpAnyH_take (i := 2) (v := (.int .i64 M)) rfl (by kernel_rfl) (by kernel_rfl) (by kernel_rfl) (fun _ _ _ h => h) (Or.inl ⟨by rfl, ?hy550⟩) hHeld ?hn550
    case hy550 => (intro wz hSw; have h := HM.out; go_simp)
    try simp only [List.getElem_toArray, List.getElem_cons_zero, List.getElem_cons_succ, Act.put, List.setIfInBounds_toArray, List.set_cons_zero, List.set_cons_succ]
    refine' wpAnyH_take (i := 3) (v := _) rfl (by kernel_rfl) (by kernel_rfl) (by kernel_rfl) (fun _ _ _ h => h) (Or.inl ⟨by rfl, ?hy551⟩) hHeld ?hn551
    case hy551 => (intro wz hSw; (try dsimp only at hSw); go_simp; first | done | with_reducible rfl)
    try simp only [List.getElem_toArray, List.getElem_cons_zero, List.getElem_cons_succ, Act.put, List.setIfInBounds_toArray, List.set_cons_zero, List.set_cons_succ]
    refine' wpAnyH_take (i := 4) (v := _) rfl (by kernel_rfl) (by kernel_rfl) (by kernel_rfl) (fun _ _ _ h => h) (Or.inl ⟨by rfl, ?hy552⟩) hHeld ?hn552
    case hy552 => (intro wz hSw; (try dsimp only at hSw); go_simp; first | done | with_reducible rfl)
    try simp only [List.getElem_toArray, List.getElem_cons_zero, List.getElem_cons_succ, Act.put, List.setIfInBounds_toArray, List.set_cons_zero, List.set_cons_succ]
    refine' wpAnyH_take (i := 5) (v := _) rfl (by kernel_rfl) (by kernel_rfl) (by kernel_rfl) (fun _ _ _ h => h) (Or.inl ⟨by rfl, ?hy553⟩) hHeld ?hn553
    case hy553 => (intro wz hSw; (try dsimp only at hSw); go_simp; first | done | with_reducible rfl)
    try simp only [List.getElem_toArray, List.getElem_cons_zero, List.getElem_cons_succ, Act.put, List.setIfInBounds_toArray, List.set_cons_zero, List.set_cons_succ]
    refine' wpAnyH_take (i := 6) (v := (.int .i64 Za)) rfl (by kernel_rfl) (by kernel_rfl) (by kernel_rfl) (fun _ _ _ h => h) (Or.inl ⟨by rfl, ?hy554⟩) hHeld ?hn554
    case hy554 => (intro wz hSw; have k := cell_later hSw ca; go_simp)
    try simp only [List.getElem_toArray, List.getElem_cons_zero, List.getElem_cons_succ, Act.put, List.setIfInBounds_toArray, List.set_cons_zero, List.set_cons_succ]
    refine' wpAnyH_take (i := 7) (v := _) rfl (by kernel_rfl) (by kernel_rfl) (by kernel_rfl) (fun _ _ _ h => h) (Or.inl ⟨by rfl, ?hy555⟩) hHeld ?hn555
    case hy555 => (intro wz hSw; (try dsimp only at hSw); go_simp; first | done | with_reducible rfl)
    try simp only [List.getElem_toArray, List.getElem_cons_zero, List.getElem_cons_succ, Act.put, List.setIfInBounds_toArray, List.set_cons_zero, List.set_cons_succ]
    refine' wpAnyH_take (i := 8) (v := _) rfl (by kernel_rfl) (by kernel_rfl) (by kernel_rfl) (fun _ _ _ h => h) (Or.inl ⟨by rfl, ?hy556⟩) hHeld ?hn556
    case hy556 => (intro wz hSw; (try dsimp only at hSw); go_simp; first | done | with_reducible rfl)
    try simp only [List.getElem_toArray, List.getElem_cons_zero, List.getElem_cons_succ, Act.put, List.setIfInBounds_toArray, List.set_cons_zero, List.set_cons_succ]
    refine' wpAnyH_take (i := 9) (v := _) rfl (by kernel_rfl) (by kernel_rfl) (by kernel_rfl) (fun _ _ _ h => h) (Or.inl ⟨by rfl, ?hy557⟩) hHeld ?hn557
    case hy557 => (intro wz hSw; (try dsimp only at hSw); go_simp; first | done | with_reducible rfl)
    try simp only [List.getElem_toArray, List.getElem_cons_zero, List.getElem_cons_succ, Act.put, List.setIfInBounds_toArray, List.set_cons_zero, List.set_cons_succ]
    refine' wpAnyH_take (i := 10) (v := (.int .i64 Za)) rfl (by kernel_rfl) (by kernel_rfl) (by kernel_rfl) (fun _ _ _ h => h) (Or.inl ⟨by rfl, ?hy558⟩) hHeld ?hn558
    case hy558 => (intro wz hSw; have k := cell_later hSw ca; go_simp)
    try simp only [List.getElem_toArray, List.getElem_cons_zero, List.getElem_cons_succ, Act.put, List.setIfInBounds_toArray, List.set_cons_zero, List.set_cons_succ]
    refine' wpAnyH_take (i := 11) (v := _) rfl (by kernel_rfl) (by kernel_rfl) (by kernel_rfl) (fun _ _ _ h => h) (Or.inl ⟨by rfl, ?hy559⟩) hHeld ?hn559
    case hy559 => (intro wz hSw; (try dsimp only at hSw); go_simp; first | done | with_reducible rfl)
    try simp only [List.getElem_toArray, List.getElem_cons_zero, List.getElem_cons_succ, Act.put, List.setIfInBounds_toArray, List.set_cons_zero, List.set_cons_succ]
    refine' wpAnyH_take (i := 12) (v := _) rfl (by kernel_rfl) (by kernel_rfl) (by kernel_rfl) (fun _ _ _ h => h) (Or.inl ⟨by rfl, ?hy560⟩) hHeld ?hn560
    case hy560 => (intro wz hSw; (try dsimp only at hSw); go_simp; first | done | with_reducible rfl)
    try simp only [List.getElem_toArray, List.getElem_cons_zero, List.getElem_cons_succ, Act.put, List.setIfInBounds_toArray, List.set_cons_zero, List.set_cons_succ]
    refine' wpAnyH_take (i := 13) (v := _) rfl (by kernel_rfl) (by kernel_rfl) (by kernel_rfl) (fun _ _ _ h => h) (Or.inl ⟨by rfl, ?hy561⟩) hHeld ?hn561
    case hy561 => (intro wz hSw; (try dsimp only at hSw); go_simp; first | done | with_reducible rfl)
    try simp only [List.getElem_toArray, List.getElem_cons_zero, List.getElem_cons_succ, Act.put, List.setIfInBounds_toArray, List.set_cons_zero, List.set_cons_succ]
    refine' wpAnyH_take (i := 14) (v := (.int .i64 Zb)) rfl (by kernel_rfl) (by kernel_rfl) (by kernel_rfl) (fun _ _ _ h => h) (Or.inl ⟨by rfl, ?hy562⟩) hHeld ?hn562
    case hy562 => (intro wz hSw; have k := cell_later hSw cb; go_simp)
    try simp only [List.getElem_toArray, List.getElem_cons_zero, List.getElem_cons_succ, Act.put, List.setIfInBounds_toArray, List.set_cons_zero, List.set_cons_succ]
    refine' wpAnyH_take (i := 15) (v := (.int .i64 (Za + Zb))) rfl (by kernel_rfl) (by kernel_rfl) (by kernel_rfl) (fun _ _ _ h => h) (Or.inl ⟨by rfl, ?hy563⟩) hHeld ?hn563
    case hy563 => (intro wz hSw; have h := HAB.out; go_simp)
    try simp only [List.getElem_toArray, List.getElem_cons_zero, List.getElem_cons_succ, Act.put, List.setIfInBounds_toArray, List.set_cons_zero, List.set_cons_succ]
    refine' wpAnyH_take (i := 16) (v := (.int .i64 Y2)) rfl (by kernel_rfl) (by kernel_rfl) (by kernel_rfl) (fun _ _ _ h => h) (Or.inl ⟨by rfl, ?hy564⟩) hHeld ?hn564
    case hy564 => (intro wz hSw; have h := HY2.out; go_simp)
    try simp only [List.getElem_toArray, List.getElem_cons_zero, List.getElem_cons_succ, Act.put, List.setIfInBounds_toArray, List.set_cons_zero, List.set_cons_succ]
    refine' wpAnyH_take (i := 17) (v := _) rfl (by kernel_rfl) (by kernel_rfl) (by kernel_rfl) (fun _ _ _ h => h) (Or.inl ⟨by rfl, ?hy565⟩) hHeld ?hn565
    case hy565 => (intro wz hSw; (try dsimp only at hSw); go_simp; first | done | with_reducible rfl)
    try simp only [List.getElem_toArray, List.getElem_cons_zero, List.getElem_cons_succ, Act.put, List.setIfInBounds_toArray, List.set_cons_zero, List.set_cons_succ]
    refine wpAnyH_ready (rs := [18]) (by kernel_rfl) (by simp) ?_
    refine AllReadyH.cons rfl (fun K hK => ?_) AllReadyH.nil
    go_simp
    rw [← HWS.out]
    refine hK.out _ _ (HBS.out) (fun hHeld => ?_)
    clear hK K
    refine' wpAnyH_take (i := 19) (v := _) rfl (by kernel_rfl) (by kernel_rfl) (by kernel_rfl) (fun _ _ _ h => h) (Or.inl ⟨by rfl, ?hy566⟩) hHeld ?hn566
    case hy566 => (intro wz hSw; (try dsimp only at hSw); go_simp; first | done | with_reducible rfl)
    try simp only [List.getElem_toArray, List.getElem_cons_zero, List.getElem_cons_succ, Act.put, List.setIfInBounds_toArray, List.set_cons_zero, List.set_cons_succ]
    refine wpAnyH_done (by kernel_rfl) ?_ _
    clear hHeld HWS
    go_wp2_with fail
    go_loopw [13] (fun j wr => ∃ (i : Nat), i ≤ 4 ∧ j = .int .i64 i ∧ Below wS.heap.size wS wr) (fun j _ => 4 - (intOf j).toNat)
    case atStart => exact ⟨0, by omega, rfl, Below.refl _ _⟩
    case round =>
      obtain ⟨i, hi, rfl, hbr⟩ := hrel
      by_cases hlt : i < 4
      · obtain ⟨vk, va, vb, Y, u0, u1, u2, cw, hvb, hY⟩ := HVF.out i hlt
        replace u0 := cell_later hbr u0
        replace u1 := cell_later hbr u1
        replace u2 := cell_later hbr u2
        replace cw := cell_later hbr cw
        have kp0 := cell_later hbr HP0S.out
        have HVO : Hid (numsB ls 1 (oneV vk va vb) zs = true) := oneV_ok HNB.out ll.1 hvb
        obtain ⟨s, hs⟩ : ∃ s, runS ls 1 (oneV vk va vb) zs = s := ⟨_, rfl⟩
        have HS : Hid _ := hs
        have hsr := oneV_run HNB.out ll.1 hvb
        rw [hs, hY] at hsr
        have HSL : Hid (s.n.length = zs.length) := (show s.n.length = zs.length by rw [hsr]; simp)
        have HS0 : Hid (s.n[0]? = some Y) := (show s.n[0]? = some Y by rw [hsr]; exact List.getElem?_set_self (by omega))
        have HWL : Hid (s.ws.length = 1) := (show s.ws.length = 1 by rw [hsr]; rfl)
        have HBr : Hid (Below wS.heap.size wS wr) := hbr
        have HB4r : Hid (Below w4.heap.size w4 wr) := Below.then HBS.out hbr HBS.out.size
        have i0' : (0 : Int) ≤ (i : Int) := by omega
        have i1' : (i : Int) < 4 := by omega
        clear hbr hs hsr hY hvb
        go_wp2_with fail
        refine wp_region_held (S := (fun wz => Below wr.heap.size wr wz)) (by kernel_rfl) ?_
        change wpAnyH _ _ _ _ _ _ _ _ (World.drew _)
        have hHeld := (Below.refl wr.heap.size wr).drew
        refine' wpAnyH_take (i := 0) (v := _) rfl (by kernel_rfl) (by kernel_rfl) (by kernel_rfl) (fun _ _ _ h => h) (Or.inl ⟨by rfl, ?hy23⟩) hHeld ?hn23
        case hy23 => (intro wz hSw; go_simp; first | done | with_reducible rfl)
        try simp only [List.getElem_toArray, List.getElem_cons_zero, List.getElem_cons_succ, Act.put, List.setIfInBounds_toArray, List.set_cons_zero, List.set_cons_succ]
        refine' wpAnyH_take (i := 1) (v := (.slice la ls.length lc)) rfl (by kernel_rfl) (by kernel_rfl) (by kernel_rfl) (fun _ _ _ h => h) (Or.inl ⟨by rfl, ?hy24⟩) hHeld ?hn24
        case hy24 => (intro wz hSw; have k := cell_later hSw kp0; go_simp)
        try simp only [List.getElem_toArray, List.getElem_cons_zero, List.getElem_cons_succ, Act.put, List.setIfInBounds_toArray, List.set_cons_zero, List.set_cons_succ]
        refine' wpAnyH_take (i := 2) (v := _) rfl (by kernel_rfl) (by kernel_rfl) (by kernel_rfl) (fun _ _ _ h => h) (Or.inl ⟨by rfl, ?hy25⟩) hHeld ?hn25
        case hy25 => (intro wz hSw; go_simp; first | done | with_reducible rfl)
        try simp only [List.getElem_toArray, List.getElem_cons_zero, List.getElem_cons_succ, Act.put, List.setIfInBounds_toArray, List.set_cons_zero, List.set_cons_succ]
        refine' wpAnyH_take (i := 3) (v := _) rfl (by kernel_rfl) (by kernel_rfl) (by kernel_rfl) (fun _ _ _ h => h) (Or.inl ⟨by rfl, ?hy26⟩) hHeld ?hn26
        case hy26 => (intro wz hSw; go_simp; first | done | with_reducible rfl)
        try simp only [List.getElem_toArray, List.getElem_cons_zero, List.getElem_cons_succ, Act.put, List.setIfInBounds_toArray, List.set_cons_zero, List.set_cons_succ]
        refine' wpAnyH_take (i := 4) (v := (.pointer (some ⟨w4.heap.size, i * 3, none⟩))) rfl (by kernel_rfl) (by kernel_rfl) (by kernel_rfl) (fun _ _ _ h => h) (Or.inl ⟨by rfl, ?hy27⟩) hHeld ?hn27
        case hy27 => (intro wz hSw; go_simp; first | done | with_reducible rfl | simp)
        try simp only [List.getElem_toArray, List.getElem_cons_zero, List.getElem_cons_succ, Act.put, List.setIfInBounds_toArray, List.set_cons_zero, List.set_cons_succ]
        refine' wpAnyH_take (i := 5) (v := (.agg #[.int .i64 vk, .int .i64 va, .int .i64 vb])) rfl (by kernel_rfl) (by kernel_rfl) (by kernel_rfl) (fun _ _ _ h => h) (Or.inl ⟨by rfl, ?hy28⟩) hHeld ?hn28
        case hy28 => (intro wz hSw; have k := cell_later hSw u0; have k' := cell_later hSw u1; have k2 := cell_later hSw u2; go_simp)
        try simp only [List.getElem_toArray, List.getElem_cons_zero, List.getElem_cons_succ, Act.put, List.setIfInBounds_toArray, List.set_cons_zero, List.set_cons_succ]
        refine' wpAnyH_take (i := 6) (v := _) rfl (by kernel_rfl) (by kernel_rfl) (by kernel_rfl) (fun _ _ _ h => h) (Or.inl ⟨by rfl, ?hy29⟩) hHeld ?hn29
        case hy29 => (intro wz hSw; go_simp; first | done | with_reducible rfl)
        try simp only [List.getElem_toArray, List.getElem_cons_zero, List.getElem_cons_succ, Act.put, List.setIfInBounds_toArray, List.set_cons_zero, List.set_cons_succ]
        refine' wpAnyH_take (i := 9) (v := _) rfl (by kernel_rfl) (by kernel_rfl) (by kernel_rfl) (fun _ _ _ h => h) (Or.inl ⟨by rfl, ?hy30⟩) hHeld ?hn30
        case hy30 => (intro wz hSw; go_simp; first | done | with_reducible rfl)
        try simp only [List.getElem_toArray, List.getElem_cons_zero, List.getElem_cons_succ, Act.put, List.setIfInBounds_toArray, List.set_cons_zero, List.set_cons_succ]
        refine wpAnyH_ready (rs := [7, 14]) (by kernel_rfl) (by simp) ?_
        refine AllReadyH.cons rfl (fun K hK => ?_) (AllReadyH.cons rfl (fun K hK => ?_) AllReadyH.nil)
        · go_simp
          have RV := rep_oneV wr vk va vb 32
          have AL : Below wr.heap.size wr (World.drew (World.alloc wr (.cells #[.int .i64 1, .int .i64 0, .int .i64 vk, .int .i64 va, .int .i64 vb, .int .i64 0, .slice none 0 0, .slice none 0 0] 32))) := ((Below.refl _ _).alloc (Nat.le_refl _) _).drew
          replace RV := RV.below (Below.drew (Below.refl _ _))
          obtain ⟨pb, hpb⟩ : ∃ x, x = (wr).heap.size := ⟨_, rfl⟩
          rw [← hpb] at RV ⊢
          clear hpb
          generalize (World.drew (World.alloc wr (.cells #[.int .i64 1, .int .i64 0, .int .i64 vk, .int .i64 va, .int .i64 vb, .int .i64 0, .slice none 0 0, .slice none 0 0] 32))) = wV at *
          refine hK.out _ _ (AL) (fun hHeld => ?_)
          clear hK K
          refine' wpAnyH_take (i := 8) (v := _) rfl (by kernel_rfl) (by kernel_rfl) (by kernel_rfl) (fun _ _ _ h => h) (Or.inl ⟨by rfl, ?hy31⟩) hHeld ?hn31
          case hy31 => (intro wz hSw; go_simp; first | done | with_reducible rfl)
          try simp only [List.getElem_toArray, List.getElem_cons_zero, List.getElem_cons_succ, Act.put, List.setIfInBounds_toArray, List.set_cons_zero, List.set_cons_succ]
          refine wpAnyH_ready (rs := [10, 14]) (by kernel_rfl) (by simp) ?_
          refine AllReadyH.cons rfl (fun K hK => ?_) (AllReadyH.cons rfl (fun K hK => ?_) AllReadyH.nil)
          · have KR := runOf_any (HN4.out _ (Below.then HB4r.out hHeld HB4r.out.size)).1 RV (HN4.out _ (Below.then HB4r.out hHeld HB4r.out.size)).2
            rw [HVO.out, HS.out] at KR
            go_simp
            refine Calls.mono KR ?_
            rintro e' wR ⟨vua, vub, vuc, rfl, hbR, r3⟩
            clear KR
            obtain ⟨ua, uac, ha⟩ := rowg_slice r3.n
            obtain ⟨ub, ubc, hb⟩ := rowg_slice r3.ws
            obtain ⟨uc, ucc, hc⟩ := rowg_slice r3.ss
            subst ha hb hc
            refine hK.out _ _ (Below.then hHeld hbR hHeld.size) (fun hHeld => ?_)
            clear hK K
            refine' wpAnyH_take (i := 11) (v := _) rfl (by kernel_rfl) (by kernel_rfl) (by kernel_rfl) (fun _ _ _ h => h) (Or.inl ⟨by rfl, ?hy32⟩) hHeld ?hn32
            case hy32 => (intro wz hSw; go_simp; first | done | with_reducible rfl)
            try simp only [List.getElem_toArray, List.getElem_cons_zero, List.getElem_cons_succ, Act.put, List.setIfInBounds_toArray, List.set_cons_zero, List.set_cons_succ]
            refine' wpAnyH_take (i := 12) (v := _) rfl (by kernel_rfl) (by kernel_rfl) (by kernel_rfl) (fun _ _ _ h => h) (Or.inl ⟨by rfl, ?hy33⟩) hHeld ?hn33
            case hy33 => (intro wz hSw; go_simp; first | done | with_reducible rfl)
            try simp only [List.getElem_toArray, List.getElem_cons_zero, List.getElem_cons_succ, Act.put, List.setIfInBounds_toArray, List.set_cons_zero, List.set_cons_succ]
            refine' wpAnyH_take (i := 13) (v := _) rfl (by kernel_rfl) (by kernel_rfl) (by kernel_rfl) (fun _ _ _ h => h) (Or.inl ⟨by rfl, ?hy34⟩) hHeld ?hn34
            case hy34 => (intro wz hSw; go_simp; first | done | with_reducible rfl)
            try simp only [List.getElem_toArray, List.getElem_cons_zero, List.getElem_cons_succ, Act.put, List.setIfInBounds_toArray, List.set_cons_zero, List.set_cons_succ]
            refine wpAnyH_ready (rs := [14]) (by kernel_rfl) (by simp) ?_
            refine AllReadyH.cons rfl (fun K hK => ?_) AllReadyH.nil
            go_simp
            have CY := C3.new wR (.slice none 0 0) (.slice none 0 0) (.slice none 0 0) 44
            have AL : Below (wR).heap.size wR (World.alloc wR (.cells #[.slice none 0 0, .slice none 0 0, .slice none 0 0] 44)) := (Below.refl _ _).alloc (Nat.le_refl _) _
            obtain ⟨yb, hyb⟩ : ∃ yb, yb = (wR).heap.size := ⟨_, rfl⟩
            have hyl : yb < ((World.alloc wR (.cells #[.slice none 0 0, .slice none 0 0, .slice none 0 0] 44))).heap.size := by rw [hyb]; exact C3.lt CY
            have hy8 : wr.heap.size ≤ yb := by rw [hyb]; first | exact Nat.le_refl _ | exact hHeld.size
            rw [← hyb] at CY ⊢
            have hne : ∀ b, (.slice ua s.n.length uac : Value).ownBlock = some b ∨ (.slice ub s.ws.length ubc : Value).ownBlock = some b ∨ (.slice uc s.ss.length ucc : Value).ownBlock = some b → b ≠ yb := by
              rintro b (h | h | h)
              · have := (World.ownsRow.lt r3.n b h).2; omega
              · have := (World.ownsRow.lt r3.ws b h).2; omega
              · have := (World.ownsRow.lt r3.ss b h).2; omega
            replace r3 := r3.below AL
            clear hyb
            generalize (World.alloc wR (.cells #[.slice none 0 0, .slice none 0 0, .slice none 0 0] 44)) = wY at *
            refine hK.out _ _ (Below.then hHeld AL hHeld.size) (fun hHeld => ?_)
            clear hK K
            refine wpAnyH_ready (rs := [15]) (by kernel_rfl) (by simp) ?_
            refine AllReadyH.cons rfl (fun K hK => ?_) AllReadyH.nil
            obtain ⟨⟨c0, c1, c2⟩, f0, f1, f2⟩ := id CY
            have GY : C3 ((((wY).setCell ⟨yb, 0, none⟩ (.slice ua s.n.length uac)).setCell ⟨yb, 1, none⟩ (.slice ub s.ws.length ubc)).setCell ⟨yb, 2, none⟩ (.slice uc s.ss.length ucc)) yb (.slice ua s.n.length uac) (.slice ub s.ws.length ubc) (.slice uc s.ss.length ucc) := ((CY.set0 _).set1 _).set2 _
            have RY := ((r3.far ⟨yb, 0, none⟩ (.slice ua s.n.length uac) (fun h => hne _ (.inl h) rfl) (fun h => hne _ (.inr (.inl h)) rfl) (fun h => hne _ (.inr (.inr h)) rfl)).far ⟨yb, 1, none⟩ (.slice ub s.ws.length ubc) (fun h => hne _ (.inl h) rfl) (fun h => hne _ (.inr (.inl h)) rfl) (fun h => hne _ (.inr (.inr h)) rfl)).far ⟨yb, 2, none⟩ (.slice uc s.ss.length ucc) (fun h => hne _ (.inl h) rfl) (fun h => hne _ (.inr (.inl h)) rfl) (fun h => hne _ (.inr (.inr h)) rfl)
            have BY : Below wr.heap.size wr ((((wY).setCell ⟨yb, 0, none⟩ (.slice ua s.n.length uac)).setCell ⟨yb, 1, none⟩ (.slice ub s.ws.length ubc)).setCell ⟨yb, 2, none⟩ (.slice uc s.ss.length ucc)) := ((hHeld.setCell hy8 _).setCell hy8 _).setCell hy8 _
            clear CY
            go_simp
            clear c0 c1 c2 f0 f1 f2
            generalize (((wY).setCell ⟨yb, 0, none⟩ (.slice ua s.n.length uac)).setCell ⟨yb, 1, none⟩ (.slice ub s.ws.length ubc)).setCell ⟨yb, 2, none⟩ (.slice uc s.ss.length ucc) = wF at GY RY BY ⊢
            refine hK.out _ _ (BY) (fun hHeld => ?_)
            clear hK K
            refine' wpAnyH_take (i := 16) (v := _) rfl (by kernel_rfl) (by kernel_rfl) (by kernel_rfl) (fun _ _ _ h => h) (Or.inl ⟨by rfl, ?hy35⟩) hHeld ?hn35
            case hy35 => (intro wz hSw; go_simp; first | done | with_reducible rfl)
            try simp only [List.getElem_toArray, List.getElem_cons_zero, List.getElem_cons_succ, Act.put, List.setIfInBounds_toArray, List.set_cons_zero, List.set_cons_succ]
            refine wpAnyH_done (by kernel_rfl) ?_ _
            clear hHeld
            have HYF : Hid (GRep (Value.int .i64) wF (.slice ua s.n.length uac) s.n) := RY.reps.1
            obtain ⟨ug, uo, hua⟩ : ∃ ug uo, ua = some ⟨ug, uo, none⟩ := by
              obtain ⟨a', c', hs', -, -, hcell'⟩ := HYF.out
              obtain ⟨b', off', h1', -⟩ := hcell' 0 (by have := HSL.out; omega)
              simp only [Value.slice.injEq] at hs'
              exact ⟨b', off', hs'.1.trans h1'⟩
            subst hua
            have cY : wF.cell? ⟨ug, uo, none⟩ = some (.int .i64 Y) := grep_at HYF.out (i := 0) HS0.out
            have hsl : 0 < s.n.length := by have := HSL.out; omega
            replace cw := cell_later BY cw
            obtain ⟨⟨ky0, ky1, ky2⟩, -⟩ := GY
            have HBF : Hid (Below wr.heap.size wr wF) := BY
            clear RY BY r3 hne
            go_wp2_with fail
            refine wp_region_held (S := (fun wz => Below wF.heap.size wF wz)) (by kernel_rfl) ?_
            change wpAnyH _ _ _ _ _ _ _ _ (World.drew _)
            have hHeld := (Below.refl wF.heap.size wF).drew
            refine' wpAnyH_take (i := 0) (v := _) rfl (by kernel_rfl) (by kernel_rfl) (by kernel_rfl) (fun _ _ _ h => h) (Or.inl ⟨by rfl, ?hy4x510⟩) hHeld ?hn4x510
            case hy4x510 => (intro wz hSw; (try dsimp only at hSw); go_simp; first | done | with_reducible rfl)
            try simp only [List.getElem_toArray, List.getElem_cons_zero, List.getElem_cons_succ, Act.put, List.setIfInBounds_toArray, List.set_cons_zero, List.set_cons_succ]
            refine' wpAnyH_take (i := 1) (v := _) rfl (by kernel_rfl) (by kernel_rfl) (by kernel_rfl) (fun _ _ _ h => h) (Or.inl ⟨by rfl, ?hy4x511⟩) hHeld ?hn4x511
            case hy4x511 => (intro wz hSw; (try dsimp only at hSw); go_simp; first | done | with_reducible rfl)
            try simp only [List.getElem_toArray, List.getElem_cons_zero, List.getElem_cons_succ, Act.put, List.setIfInBounds_toArray, List.set_cons_zero, List.set_cons_succ]
            refine' wpAnyH_take (i := 2) (v := _) rfl (by kernel_rfl) (by kernel_rfl) (by kernel_rfl) (fun _ _ _ h => h) (Or.inl ⟨by rfl, ?hy4x512⟩) hHeld ?hn4x512
            case hy4x512 => (intro wz hSw; (try dsimp only at hSw); go_simp; first | done | with_reducible rfl)
            try simp only [List.getElem_toArray, List.getElem_cons_zero, List.getElem_cons_succ, Act.put, List.setIfInBounds_toArray, List.set_cons_zero, List.set_cons_succ]
            refine' wpAnyH_take (i := 3) (v := _) rfl (by kernel_rfl) (by kernel_rfl) (by kernel_rfl) (fun _ _ _ h => h) (Or.inl ⟨by rfl, ?hy4x513⟩) hHeld ?hn4x513
            case hy4x513 => (intro wz hSw; (try dsimp only at hSw); go_simp; first | done | with_reducible rfl)
            try simp only [List.getElem_toArray, List.getElem_cons_zero, List.getElem_cons_succ, Act.put, List.setIfInBounds_toArray, List.set_cons_zero, List.set_cons_succ]
            refine' wpAnyH_take (i := 4) (v := (.slice (some ⟨ug, uo, none⟩) s.n.length uac)) rfl (by kernel_rfl) (by kernel_rfl) (by kernel_rfl) (fun _ _ _ h => h) (Or.inl ⟨by rfl, ?hy4x514⟩) hHeld ?hn4x514
            case hy4x514 => (intro wz hSw; have k := cell_later hSw ky0; go_simp)
            try simp only [List.getElem_toArray, List.getElem_cons_zero, List.getElem_cons_succ, Act.put, List.setIfInBounds_toArray, List.set_cons_zero, List.set_cons_succ]
            refine' wpAnyH_take (i := 5) (v := _) rfl (by kernel_rfl) (by kernel_rfl) (by kernel_rfl) (fun _ _ _ h => h) (Or.inl ⟨by rfl, ?hy4x515⟩) hHeld ?hn4x515
            case hy4x515 => (intro wz hSw; go_simp; first | done | with_reducible rfl | simp)
            try simp only [List.getElem_toArray, List.getElem_cons_zero, List.getElem_cons_succ, Act.put, List.setIfInBounds_toArray, List.set_cons_zero, List.set_cons_succ]
            refine' wpAnyH_take (i := 6) (v := (.int .i64 Y)) rfl (by kernel_rfl) (by kernel_rfl) (by kernel_rfl) (fun _ _ _ h => h) (Or.inl ⟨by rfl, ?hy4x516⟩) hHeld ?hn4x516
            case hy4x516 => (intro wz hSw; have k := cell_later hSw cY; go_simp)
            try simp only [List.getElem_toArray, List.getElem_cons_zero, List.getElem_cons_succ, Act.put, List.setIfInBounds_toArray, List.set_cons_zero, List.set_cons_succ]
            refine' wpAnyH_take (i := 7) (v := _) rfl (by kernel_rfl) (by kernel_rfl) (by kernel_rfl) (fun _ _ _ h => h) (Or.inl ⟨by rfl, ?hy4x517⟩) hHeld ?hn4x517
            case hy4x517 => (intro wz hSw; (try dsimp only at hSw); go_simp; first | done | with_reducible rfl)
            try simp only [List.getElem_toArray, List.getElem_cons_zero, List.getElem_cons_succ, Act.put, List.setIfInBounds_toArray, List.set_cons_zero, List.set_cons_succ]
            refine' wpAnyH_take (i := 8) (v := _) rfl (by kernel_rfl) (by kernel_rfl) (by kernel_rfl) (fun _ _ _ h => h) (Or.inl ⟨by rfl, ?hy4x518⟩) hHeld ?hn4x518
            case hy4x518 => (intro wz hSw; (try dsimp only at hSw); go_simp; first | done | with_reducible rfl)
            try simp only [List.getElem_toArray, List.getElem_cons_zero, List.getElem_cons_succ, Act.put, List.setIfInBounds_toArray, List.set_cons_zero, List.set_cons_succ]
            refine' wpAnyH_take (i := 9) (v := _) rfl (by kernel_rfl) (by kernel_rfl) (by kernel_rfl) (fun _ _ _ h => h) (Or.inl ⟨by rfl, ?hy4x519⟩) hHeld ?hn4x519
            case hy4x519 => (intro wz hSw; go_simp; first | done | with_reducible rfl | simp)
            try simp only [List.getElem_toArray, List.getElem_cons_zero, List.getElem_cons_succ, Act.put, List.setIfInBounds_toArray, List.set_cons_zero, List.set_cons_succ]
            refine' wpAnyH_take (i := 10) (v := (.int .i64 Y)) rfl (by kernel_rfl) (by kernel_rfl) (by kernel_rfl) (fun _ _ _ h => h) (Or.inl ⟨by rfl, ?hy4x520⟩) hHeld ?hn4x520
            case hy4x520 => (intro wz hSw; have k := cell_later hSw cw; go_simp)
            try simp only [List.getElem_toArray, List.getElem_cons_zero, List.getElem_cons_succ, Act.put, List.setIfInBounds_toArray, List.set_cons_zero, List.set_cons_succ]
            refine' wpAnyH_take (i := 11) (v := _) rfl (by kernel_rfl) (by kernel_rfl) (by kernel_rfl) (fun _ _ _ h => h) (Or.inl ⟨by rfl, ?hy4x521⟩) hHeld ?hn4x521
            case hy4x521 => (intro wz hSw; (try dsimp only at hSw); go_simp; first | done | with_reducible rfl)
            try simp only [List.getElem_toArray, List.getElem_cons_zero, List.getElem_cons_succ, Act.put, List.setIfInBounds_toArray, List.set_cons_zero, List.set_cons_succ]
            refine' wpAnyH_take (i := 12) (v := _) rfl (by kernel_rfl) (by kernel_rfl) (by kernel_rfl) (fun _ _ _ h => h) (Or.inl ⟨by rfl, ?hy4x522⟩) hHeld ?hn4x522
            case hy4x522 => (intro wz hSw; (try dsimp only at hSw); go_simp; first | done | with_reducible rfl)
            try simp only [List.getElem_toArray, List.getElem_cons_zero, List.getElem_cons_succ, Act.put, List.setIfInBounds_toArray, List.set_cons_zero, List.set_cons_succ]
            refine' wpAnyH_take (i := 13) (v := _) rfl (by kernel_rfl) (by kernel_rfl) (by kernel_rfl) (fun _ _ _ h => h) (Or.inl ⟨by rfl, ?hy4x523⟩) hHeld ?hn4x523
            case hy4x523 => (intro wz hSw; (try dsimp only at hSw); go_simp; first | done | with_reducible rfl)
            try simp only [List.getElem_toArray, List.getElem_cons_zero, List.getElem_cons_succ, Act.put, List.setIfInBounds_toArray, List.set_cons_zero, List.set_cons_succ]
            refine' wpAnyH_take (i := 14) (v := _) rfl (by kernel_rfl) (by kernel_rfl) (by kernel_rfl) (fun _ _ _ h => h) (Or.inl ⟨by rfl, ?hy4x524⟩) hHeld ?hn4x524
            case hy4x524 => (intro wz hSw; (try dsimp only at hSw); go_simp; first | done | with_reducible rfl)
            try simp only [List.getElem_toArray, List.getElem_cons_zero, List.getElem_cons_succ, Act.put, List.setIfInBounds_toArray, List.set_cons_zero, List.set_cons_succ]
            refine' wpAnyH_take (i := 15) (v := (.slice ub s.ws.length ubc)) rfl (by kernel_rfl) (by kernel_rfl) (by kernel_rfl) (fun _ _ _ h => h) (Or.inl ⟨by rfl, ?hy4x525⟩) hHeld ?hn4x525
            case hy4x525 => (intro wz hSw; have k := cell_later hSw ky1; go_simp)
            try simp only [List.getElem_toArray, List.getElem_cons_zero, List.getElem_cons_succ, Act.put, List.setIfInBounds_toArray, List.set_cons_zero, List.set_cons_succ]
            refine' wpAnyH_take (i := 16) (v := _) rfl (by kernel_rfl) (by kernel_rfl) (by kernel_rfl) (fun _ _ _ h => h) (Or.inl ⟨by rfl, ?hy4x526⟩) hHeld ?hn4x526
            case hy4x526 => (intro wz hSw; (try dsimp only at hSw); go_simp; first | done | with_reducible rfl)
            try simp only [List.getElem_toArray, List.getElem_cons_zero, List.getElem_cons_succ, Act.put, List.setIfInBounds_toArray, List.set_cons_zero, List.set_cons_succ]
            refine' wpAnyH_take (i := 17) (v := (.bool false)) rfl (by kernel_rfl) (by kernel_rfl) (by kernel_rfl) (fun _ _ _ h => h) (Or.inl ⟨by rfl, ?hy4x527⟩) hHeld ?hn4x527
            case hy4x527 => (intro wz hSw; have h := HWL.out; go_simp; first | done | simp [h])
            try simp only [List.getElem_toArray, List.getElem_cons_zero, List.getElem_cons_succ, Act.put, List.setIfInBounds_toArray, List.set_cons_zero, List.set_cons_succ]
            refine' wpAnyH_take (i := 18) (v := _) rfl (by kernel_rfl) (by kernel_rfl) (by kernel_rfl) (fun _ _ _ h => h) (Or.inl ⟨by rfl, ?hy4x528⟩) hHeld ?hn4x528
            case hy4x528 => (intro wz hSw; (try dsimp only at hSw); go_simp; first | done | with_reducible rfl)
            try simp only [List.getElem_toArray, List.getElem_cons_zero, List.getElem_cons_succ, Act.put, List.setIfInBounds_toArray, List.set_cons_zero, List.set_cons_succ]
            refine wpAnyH_done (by kernel_rfl) ?_ _
            have HBq : Hid (Below wS.heap.size wS _) := Below.then HBr.out (Below.then HBF.out hHeld HBF.out.size) HBr.out.size
            clear hHeld
            go_wp2
            exact ⟨⟨i + 1, by omega, by simp, HBq.out⟩, by simp [intOf]; omega⟩
          · go_simp
            have CY := C3.new wV (.slice none 0 0) (.slice none 0 0) (.slice none 0 0) 44
            have AL : Below (wV).heap.size wV (World.alloc wV (.cells #[.slice none 0 0, .slice none 0 0, .slice none 0 0] 44)) := (Below.refl _ _).alloc (Nat.le_refl _) _
            obtain ⟨yb, hyb⟩ : ∃ yb, yb = (wV).heap.size := ⟨_, rfl⟩
            have hyl : yb < ((World.alloc wV (.cells #[.slice none 0 0, .slice none 0 0, .slice none 0 0] 44))).heap.size := by rw [hyb]; exact C3.lt CY
            have hy8 : wr.heap.size ≤ yb := by rw [hyb]; first | exact Nat.le_refl _ | exact hHeld.size
            rw [← hyb] at CY ⊢
            replace RV := RV.below AL
            clear hyb
            generalize (World.alloc wV (.cells #[.slice none 0 0, .slice none 0 0, .slice none 0 0] 44)) = wY at *
            refine hK.out _ _ (Below.then hHeld AL hHeld.size) (fun hHeld => ?_)
            clear hK K
            refine wpAnyH_ready (rs := [10]) (by kernel_rfl) (by simp) ?_
            refine AllReadyH.cons rfl (fun K hK => ?_) AllReadyH.nil
            have KR := runOf_any (HN4.out _ (Below.then HB4r.out hHeld HB4r.out.size)).1 RV (HN4.out _ (Below.then HB4r.out hHeld HB4r.out.size)).2
            rw [HVO.out, HS.out] at KR
            go_simp
            refine Calls.mono KR ?_
            rintro e' wR ⟨vua, vub, vuc, rfl, hbR, r3⟩
            clear KR
            obtain ⟨ua, uac, ha⟩ := rowg_slice r3.n
            obtain ⟨ub, ubc, hb⟩ := rowg_slice r3.ws
            obtain ⟨uc, ucc, hc⟩ := rowg_slice r3.ss
            subst ha hb hc
            have hne : ∀ b, (.slice ua s.n.length uac : Value).ownBlock = some b ∨ (.slice ub s.ws.length ubc : Value).ownBlock = some b ∨ (.slice uc s.ss.length ucc : Value).ownBlock = some b → b ≠ yb := by
              rintro b (h | h | h)
              · have := (World.ownsRow.lt r3.n b h).1; omega
              · have := (World.ownsRow.lt r3.ws b h).1; omega
              · have := (World.ownsRow.lt r3.ss b h).1; omega
            replace CY := C3.below CY hbR
            replace hyl := Nat.lt_of_lt_of_le hyl hbR.size
            refine hK.out _ _ (Below.then hHeld hbR hHeld.size) (fun hHeld => ?_)
            clear hK K
            refine' wpAnyH_take (i := 11) (v := _) rfl (by kernel_rfl) (by kernel_rfl) (by kernel_rfl) (fun _ _ _ h => h) (Or.inl ⟨by rfl, ?hy36⟩) hHeld ?hn36
            case hy36 => (intro wz hSw; go_simp; first | done | with_reducible rfl)
            try simp only [List.getElem_toArray, List.getElem_cons_zero, List.getElem_cons_succ, Act.put, List.setIfInBounds_toArray, List.set_cons_zero, List.set_cons_succ]
            refine' wpAnyH_take (i := 12) (v := _) rfl (by kernel_rfl) (by kernel_rfl) (by kernel_rfl) (fun _ _ _ h => h) (Or.inl ⟨by rfl, ?hy37⟩) hHeld ?hn37
            case hy37 => (intro wz hSw; go_simp; first | done | with_reducible rfl)
            try simp only [List.getElem_toArray, List.getElem_cons_zero, List.getElem_cons_succ, Act.put, List.setIfInBounds_toArray, List.set_cons_zero, List.set_cons_succ]
            refine' wpAnyH_take (i := 13) (v := _) rfl (by kernel_rfl) (by kernel_rfl) (by kernel_rfl) (fun _ _ _ h => h) (Or.inl ⟨by rfl, ?hy38⟩) hHeld ?hn38
            case hy38 => (intro wz hSw; go_simp; first | done | with_reducible rfl)
            try simp only [List.getElem_toArray, List.getElem_cons_zero, List.getElem_cons_succ, Act.put, List.setIfInBounds_toArray, List.set_cons_zero, List.set_cons_succ]
            refine wpAnyH_ready (rs := [15]) (by kernel_rfl) (by simp) ?_
            refine AllReadyH.cons rfl (fun K hK => ?_) AllReadyH.nil
            obtain ⟨⟨c0, c1, c2⟩, f0, f1, f2⟩ := id CY
            have GY : C3 ((((wR).setCell ⟨yb, 0, none⟩ (.slice ua s.n.length uac)).setCell ⟨yb, 1, none⟩ (.slice ub s.ws.length ubc)).setCell ⟨yb, 2, none⟩ (.slice uc s.ss.length ucc)) yb (.slice ua s.n.length uac) (.slice ub s.ws.length ubc) (.slice uc s.ss.length ucc) := ((CY.set0 _).set1 _).set2 _
            have RY := ((r3.far ⟨yb, 0, none⟩ (.slice ua s.n.length uac) (fun h => hne _ (.inl h) rfl) (fun h => hne _ (.inr (.inl h)) rfl) (fun h => hne _ (.inr (.inr h)) rfl)).far ⟨yb, 1, none⟩ (.slice ub s.ws.length ubc) (fun h => hne _ (.inl h) rfl) (fun h => hne _ (.inr (.inl h)) rfl) (fun h => hne _ (.inr (.inr h)) rfl)).far ⟨yb, 2, none⟩ (.slice uc s.ss.length ucc) (fun h => hne _ (.inl h) rfl) (fun h => hne _ (.inr (.inl h)) rfl) (fun h => hne _ (.inr (.inr h)) rfl)
            have BY : Below wr.heap.size wr ((((wR).setCell ⟨yb, 0, none⟩ (.slice ua s.n.length uac)).setCell ⟨yb, 1, none⟩ (.slice ub s.ws.length ubc)).setCell ⟨yb, 2, none⟩ (.slice uc s.ss.length ucc)) := ((hHeld.setCell hy8 _).setCell hy8 _).setCell hy8 _
            clear CY
            go_simp
            clear c0 c1 c2 f0 f1 f2
            generalize (((wR).setCell ⟨yb, 0, none⟩ (.slice ua s.n.length uac)).setCell ⟨yb, 1, none⟩ (.slice ub s.ws.length ubc)).setCell ⟨yb, 2, none⟩ (.slice uc s.ss.length ucc) = wF at GY RY BY ⊢
            refine hK.out _ _ (BY) (fun hHeld => ?_)
            clear hK K
            refine' wpAnyH_take (i := 16) (v := _) rfl (by kernel_rfl) (by kernel_rfl) (by kernel_rfl) (fun _ _ _ h => h) (Or.inl ⟨by rfl, ?hy39⟩) hHeld ?hn39
            case hy39 => (intro wz hSw; go_simp; first | done | with_reducible rfl)
            try simp only [List.getElem_toArray, List.getElem_cons_zero, List.getElem_cons_succ, Act.put, List.setIfInBounds_toArray, List.set_cons_zero, List.set_cons_succ]
            refine wpAnyH_done (by kernel_rfl) ?_ _
            clear hHeld
            have HYF : Hid (GRep (Value.int .i64) wF (.slice ua s.n.length uac) s.n) := RY.reps.1
            obtain ⟨ug, uo, hua⟩ : ∃ ug uo, ua = some ⟨ug, uo, none⟩ := by
              obtain ⟨a', c', hs', -, -, hcell'⟩ := HYF.out
              obtain ⟨b', off', h1', -⟩ := hcell' 0 (by have := HSL.out; omega)
              simp only [Value.slice.injEq] at hs'
              exact ⟨b', off', hs'.1.trans h1'⟩
            subst hua
            have cY : wF.cell? ⟨ug, uo, none⟩ = some (.int .i64 Y) := grep_at HYF.out (i := 0) HS0.out
            have hsl : 0 < s.n.length := by have := HSL.out; omega
            replace cw := cell_later BY cw
            obtain ⟨⟨ky0, ky1, ky2⟩, -⟩ := GY
            have HBF : Hid (Below wr.heap.size wr wF) := BY
            clear RY BY r3 hne
            go_wp2_with fail
            refine wp_region_held (S := (fun wz => Below wF.heap.size wF wz)) (by kernel_rfl) ?_
            change wpAnyH _ _ _ _ _ _ _ _ (World.drew _)
            have hHeld := (Below.refl wF.heap.size wF).drew
            refine' wpAnyH_take (i := 0) (v := _) rfl (by kernel_rfl) (by kernel_rfl) (by kernel_rfl) (fun _ _ _ h => h) (Or.inl ⟨by rfl, ?hy5x510⟩) hHeld ?hn5x510
            case hy5x510 => (intro wz hSw; (try dsimp only at hSw); go_simp; first | done | with_reducible rfl)
            try simp only [List.getElem_toArray, List.getElem_cons_zero, List.getElem_cons_succ, Act.put, List.setIfInBounds_toArray, List.set_cons_zero, List.set_cons_succ]
            refine' wpAnyH_take (i := 1) (v := _) rfl (by kernel_rfl) (by kernel_rfl) (by kernel_rfl) (fun _ _ _ h => h) (Or.inl ⟨by rfl, ?hy5x511⟩) hHeld ?hn5x511
            case hy5x511 => (intro wz hSw; (try dsimp only at hSw); go_simp; first | done | with_reducible rfl)
            try simp only [List.getElem_toArray, List.getElem_cons_zero, List.getElem_cons_succ, Act.put, List.setIfInBounds_toArray, List.set_cons_zero, List.set_cons_succ]
            refine' wpAnyH_take (i := 2) (v := _) rfl (by kernel_rfl) (by kernel_rfl) (by kernel_rfl) (fun _ _ _ h => h) (Or.inl ⟨by rfl, ?hy5x512⟩) hHeld ?hn5x512
            case hy5x512 => (intro wz hSw; (try dsimp only at hSw); go_simp; first | done | with_reducible rfl)
            try simp only [List.getElem_toArray, List.getElem_cons_zero, List.getElem_cons_succ, Act.put, List.setIfInBounds_toArray, List.set_cons_zero, List.set_cons_succ]
            refine' wpAnyH_take (i := 3) (v := _) rfl (by kernel_rfl) (by kernel_rfl) (by kernel_rfl) (fun _ _ _ h => h) (Or.inl ⟨by rfl, ?hy5x513⟩) hHeld ?hn5x513
            case hy5x513 => (intro wz hSw; (try dsimp only at hSw); go_simp; first | done | with_reducible rfl)
            try simp only [List.getElem_toArray, List.getElem_cons_zero, List.getElem_cons_succ, Act.put, List.setIfInBounds_toArray, List.set_cons_zero, List.set_cons_succ]
            refine' wpAnyH_take (i := 4) (v := (.slice (some ⟨ug, uo, none⟩) s.n.length uac)) rfl (by kernel_rfl) (by kernel_rfl) (by kernel_rfl) (fun _ _ _ h => h) (Or.inl ⟨by rfl, ?hy5x514⟩) hHeld ?hn5x514
            case hy5x514 => (intro wz hSw; have k := cell_later hSw ky0; go_simp)
            try simp only [List.getElem_toArray, List.getElem_cons_zero, List.getElem_cons_succ, Act.put, List.setIfInBounds_toArray, List.set_cons_zero, List.set_cons_succ]
            refine' wpAnyH_take (i := 5) (v := _) rfl (by kernel_rfl) (by kernel_rfl) (by kernel_rfl) (fun _ _ _ h => h) (Or.inl ⟨by rfl, ?hy5x515⟩) hHeld ?hn5x515
            case hy5x515 => (intro wz hSw; go_simp; first | done | with_reducible rfl | simp)
            try simp only [List.getElem_toArray, List.getElem_cons_zero, List.getElem_cons_succ, Act.put, List.setIfInBounds_toArray, List.set_cons_zero, List.set_cons_succ]
            refine' wpAnyH_take (i := 6) (v := (.int .i64 Y)) rfl (by kernel_rfl) (by kernel_rfl) (by kernel_rfl) (fun _ _ _ h => h) (Or.inl ⟨by rfl, ?hy5x516⟩) hHeld ?hn5x516
            case hy5x516 => (intro wz hSw; have k := cell_later hSw cY; go_simp)
            try simp only [List.getElem_toArray, List.getElem_cons_zero, List.getElem_cons_succ, Act.put, List.setIfInBounds_toArray, List.set_cons_zero, List.set_cons_succ]
            refine' wpAnyH_take (i := 7) (v := _) rfl (by kernel_rfl) (by kernel_rfl) (by kernel_rfl) (fun _ _ _ h => h) (Or.inl ⟨by rfl, ?hy5x517⟩) hHeld ?hn5x517
            case hy5x517 => (intro wz hSw; (try dsimp only at hSw); go_simp; first | done | with_reducible rfl)
            try simp only [List.getElem_toArray, List.getElem_cons_zero, List.getElem_cons_succ, Act.put, List.setIfInBounds_toArray, List.set_cons_zero, List.set_cons_succ]
            refine' wpAnyH_take (i := 8) (v := _) rfl (by kernel_rfl) (by kernel_rfl) (by kernel_rfl) (fun _ _ _ h => h) (Or.inl ⟨by rfl, ?hy5x518⟩) hHeld ?hn5x518
            case hy5x518 => (intro wz hSw; (try dsimp only at hSw); go_simp; first | done | with_reducible rfl)
            try simp only [List.getElem_toArray, List.getElem_cons_zero, List.getElem_cons_succ, Act.put, List.setIfInBounds_toArray, List.set_cons_zero, List.set_cons_succ]
            refine' wpAnyH_take (i := 9) (v := _) rfl (by kernel_rfl) (by kernel_rfl) (by kernel_rfl) (fun _ _ _ h => h) (Or.inl ⟨by rfl, ?hy5x519⟩) hHeld ?hn5x519
            case hy5x519 => (intro wz hSw; go_simp; first | done | with_reducible rfl | simp)
            try simp only [List.getElem_toArray, List.getElem_cons_zero, List.getElem_cons_succ, Act.put, List.setIfInBounds_toArray, List.set_cons_zero, List.set_cons_succ]
            refine' wpAnyH_take (i := 10) (v := (.int .i64 Y)) rfl (by kernel_rfl) (by kernel_rfl) (by kernel_rfl) (fun _ _ _ h => h) (Or.inl ⟨by rfl, ?hy5x520⟩) hHeld ?hn5x520
            case hy5x520 => (intro wz hSw; have k := cell_later hSw cw; go_simp)
            try simp only [List.getElem_toArray, List.getElem_cons_zero, List.getElem_cons_succ, Act.put, List.setIfInBounds_toArray, List.set_cons_zero, List.set_cons_succ]
            refine' wpAnyH_take (i := 11) (v := _) rfl (by kernel_rfl) (by kernel_rfl) (by kernel_rfl) (fun _ _ _ h => h) (Or.inl ⟨by rfl, ?hy5x521⟩) hHeld ?hn5x521
            case hy5x521 => (intro wz hSw; (try dsimp only at hSw); go_simp; first | done | with_reducible rfl)
            try simp only [List.getElem_toArray, List.getElem_cons_zero, List.getElem_cons_succ, Act.put, List.setIfInBounds_toArray, List.set_cons_zero, List.set_cons_succ]
            refine' wpAnyH_take (i := 12) (v := _) rfl (by kernel_rfl) (by kernel_rfl) (by kernel_rfl) (fun _ _ _ h => h) (Or.inl ⟨by rfl, ?hy5x522⟩) hHeld ?hn5x522
            case hy5x522 => (intro wz hSw; (try dsimp only at hSw); go_simp; first | done | with_reducible rfl)
            try simp only [List.getElem_toArray, List.getElem_cons_zero, List.getElem_cons_succ, Act.put, List.setIfInBounds_toArray, List.set_cons_zero, List.set_cons_succ]
            refine' wpAnyH_take (i := 13) (v := _) rfl (by kernel_rfl) (by kernel_rfl) (by kernel_rfl) (fun _ _ _ h => h) (Or.inl ⟨by rfl, ?hy5x523⟩) hHeld ?hn5x523
            case hy5x523 => (intro wz hSw; (try dsimp only at hSw); go_simp; first | done | with_reducible rfl)
            try simp only [List.getElem_toArray, List.getElem_cons_zero, List.getElem_cons_succ, Act.put, List.setIfInBounds_toArray, List.set_cons_zero, List.set_cons_succ]
            refine' wpAnyH_take (i := 14) (v := _) rfl (by kernel_rfl) (by kernel_rfl) (by kernel_rfl) (fun _ _ _ h => h) (Or.inl ⟨by rfl, ?hy5x524⟩) hHeld ?hn5x524
            case hy5x524 => (intro wz hSw; (try dsimp only at hSw); go_simp; first | done | with_reducible rfl)
            try simp only [List.getElem_toArray, List.getElem_cons_zero, List.getElem_cons_succ, Act.put, List.setIfInBounds_toArray, List.set_cons_zero, List.set_cons_succ]
            refine' wpAnyH_take (i := 15) (v := (.slice ub s.ws.length ubc)) rfl (by kernel_rfl) (by kernel_rfl) (by kernel_rfl) (fun _ _ _ h => h) (Or.inl ⟨by rfl, ?hy5x525⟩) hHeld ?hn5x525
            case hy5x525 => (intro wz hSw; have k := cell_later hSw ky1; go_simp)
            try simp only [List.getElem_toArray, List.getElem_cons_zero, List.getElem_cons_succ, Act.put, List.setIfInBounds_toArray, List.set_cons_zero, List.set_cons_succ]
            refine' wpAnyH_take (i := 16) (v := _) rfl (by kernel_rfl) (by kernel_rfl) (by kernel_rfl) (fun _ _ _ h => h) (Or.inl ⟨by rfl, ?hy5x526⟩) hHeld ?hn5x526
            case hy5x526 => (intro wz hSw; (try dsimp only at hSw); go_simp; first | done | with_reducible rfl)
            try simp only [List.getElem_toArray, List.getElem_cons_zero, List.getElem_cons_succ, Act.put, List.setIfInBounds_toArray, List.set_cons_zero, List.set_cons_succ]
            refine' wpAnyH_take (i := 17) (v := (.bool false)) rfl (by kernel_rfl) (by kernel_rfl) (by kernel_rfl) (fun _ _ _ h => h) (Or.inl ⟨by rfl, ?hy5x527⟩) hHeld ?hn5x527
            case hy5x527 => (intro wz hSw; have h := HWL.out; go_simp; first | done | simp [h])
            try simp only [List.getElem_toArray, List.getElem_cons_zero, List.getElem_cons_succ, Act.put, List.setIfInBounds_toArray, List.set_cons_zero, List.set_cons_succ]
            refine' wpAnyH_take (i := 18) (v := _) rfl (by kernel_rfl) (by kernel_rfl) (by kernel_rfl) (fun _ _ _ h => h) (Or.inl ⟨by rfl, ?hy5x528⟩) hHeld ?hn5x528
            case hy5x528 => (intro wz hSw; (try dsimp only at hSw); go_simp; first | done | with_reducible rfl)
            try simp only [List.getElem_toArray, List.getElem_cons_zero, List.getElem_cons_succ, Act.put, List.setIfInBounds_toArray, List.set_cons_zero, List.set_cons_succ]
            refine wpAnyH_done (by kernel_rfl) ?_ _
            have HBq : Hid (Below wS.heap.size wS _) := Below.then HBr.out (Below.then HBF.out hHeld HBF.out.size) HBr.out.size
            clear hHeld
            go_wp2
            exact ⟨⟨i + 1, by omega, by simp, HBq.out⟩, by simp [intOf]; omega⟩
        · go_simp
          have CY := C3.new wr (.slice none 0 0) (.slice none 0 0) (.slice none 0 0) 44
          have AL : Below wr.heap.size wr (World.drew (World.alloc wr (.cells #[.slice none 0 0, .slice none 0 0, .slice none 0 0] 44))) := ((Below.refl _ _).alloc (Nat.le_refl _) _).drew
          replace CY := C3.below CY (Below.drew (Below.refl _ _))
          obtain ⟨yb, hyb⟩ : ∃ yb, yb = (wr).heap.size := ⟨_, rfl⟩
          have hyl : yb < ((World.drew (World.alloc wr (.cells #[.slice none 0 0, .slice none 0 0, .slice none 0 0] 44)))).heap.size := by rw [hyb]; exact C3.lt CY
          have hy8 : wr.heap.size ≤ yb := by rw [hyb]; first | exact Nat.le_refl _ | exact hHeld.size
          rw [← hyb] at CY ⊢
          clear hyb
          generalize (World.drew (World.alloc wr (.cells #[.slice none 0 0, .slice none 0 0, .slice none 0 0] 44))) = wY at *
          refine hK.out _ _ (AL) (fun hHeld => ?_)
          clear hK K
          refine wpAnyH_ready (rs := [7]) (by kernel_rfl) (by simp) ?_
          refine AllReadyH.cons rfl (fun K hK => ?_) AllReadyH.nil
          go_simp
          have RV := rep_oneV wY vk va vb 32
          have AL : Below (wY).heap.size wY (World.alloc wY (.cells #[.int .i64 1, .int .i64 0, .int .i64 vk, .int .i64 va, .int .i64 vb, .int .i64 0, .slice none 0 0, .slice none 0 0] 32)) := (Below.refl _ _).alloc (Nat.le_refl _) _
          obtain ⟨pb, hpb⟩ : ∃ x, x = (wY).heap.size := ⟨_, rfl⟩
          rw [← hpb] at RV ⊢
          replace CY := C3.below CY AL
          replace hyl := Nat.lt_of_lt_of_le hyl AL.size
          clear hpb
          generalize (World.alloc wY (.cells #[.int .i64 1, .int .i64 0, .int .i64 vk, .int .i64 va, .int .i64 vb, .int .i64 0, .slice none 0 0, .slice none 0 0] 32)) = wV at *
          refine hK.out _ _ (Below.then hHeld AL hHeld.size) (fun hHeld => ?_)
          clear hK K
          refine' wpAnyH_take (i := 8) (v := _) rfl (by kernel_rfl) (by kernel_rfl) (by kernel_rfl) (fun _ _ _ h => h) (Or.inl ⟨by rfl, ?hy40⟩) hHeld ?hn40
          case hy40 => (intro wz hSw; go_simp; first | done | with_reducible rfl)
          try simp only [List.getElem_toArray, List.getElem_cons_zero, List.getElem_cons_succ, Act.put, List.setIfInBounds_toArray, List.set_cons_zero, List.set_cons_succ]
          refine wpAnyH_ready (rs := [10]) (by kernel_rfl) (by simp) ?_
          refine AllReadyH.cons rfl (fun K hK => ?_) AllReadyH.nil
          have KR := runOf_any (HN4.out _ (Below.then HB4r.out hHeld HB4r.out.size)).1 RV (HN4.out _ (Below.then HB4r.out hHeld HB4r.out.size)).2
          rw [HVO.out, HS.out] at KR
          go_simp
          refine Calls.mono KR ?_
          rintro e' wR ⟨vua, vub, vuc, rfl, hbR, r3⟩
          clear KR
          obtain ⟨ua, uac, ha⟩ := rowg_slice r3.n
          obtain ⟨ub, ubc, hb⟩ := rowg_slice r3.ws
          obtain ⟨uc, ucc, hc⟩ := rowg_slice r3.ss
          subst ha hb hc
          have hne : ∀ b, (.slice ua s.n.length uac : Value).ownBlock = some b ∨ (.slice ub s.ws.length ubc : Value).ownBlock = some b ∨ (.slice uc s.ss.length ucc : Value).ownBlock = some b → b ≠ yb := by
            rintro b (h | h | h)
            · have := (World.ownsRow.lt r3.n b h).1; omega
            · have := (World.ownsRow.lt r3.ws b h).1; omega
            · have := (World.ownsRow.lt r3.ss b h).1; omega
          replace CY := C3.below CY hbR
          replace hyl := Nat.lt_of_lt_of_le hyl hbR.size
          refine hK.out _ _ (Below.then hHeld hbR hHeld.size) (fun hHeld => ?_)
          clear hK K
          refine' wpAnyH_take (i := 11) (v := _) rfl (by kernel_rfl) (by kernel_rfl) (by kernel_rfl) (fun _ _ _ h => h) (Or.inl ⟨by rfl, ?hy41⟩) hHeld ?hn41
          case hy41 => (intro wz hSw; go_simp; first | done | with_reducible rfl)
          try simp only [List.getElem_toArray, List.getElem_cons_zero, List.getElem_cons_succ, Act.put, List.setIfInBounds_toArray, List.set_cons_zero, List.set_cons_succ]
          refine' wpAnyH_take (i := 12) (v := _) rfl (by kernel_rfl) (by kernel_rfl) (by kernel_rfl) (fun _ _ _ h => h) (Or.inl ⟨by rfl, ?hy42⟩) hHeld ?hn42
          case hy42 => (intro wz hSw; go_simp; first | done | with_reducible rfl)
          try simp only [List.getElem_toArray, List.getElem_cons_zero, List.getElem_cons_succ, Act.put, List.setIfInBounds_toArray, List.set_cons_zero, List.set_cons_succ]
          refine' wpAnyH_take (i := 13) (v := _) rfl (by kernel_rfl) (by kernel_rfl) (by kernel_rfl) (fun _ _ _ h => h) (Or.inl ⟨by rfl, ?hy43⟩) hHeld ?hn43
          case hy43 => (intro wz hSw; go_simp; first | done | with_reducible rfl)
          try simp only [List.getElem_toArray, List.getElem_cons_zero, List.getElem_cons_succ, Act.put, List.setIfInBounds_toArray, List.set_cons_zero, List.set_cons_succ]
          refine wpAnyH_ready (rs := [15]) (by kernel_rfl) (by simp) ?_
          refine AllReadyH.cons rfl (fun K hK => ?_) AllReadyH.nil
          obtain ⟨⟨c0, c1, c2⟩, f0, f1, f2⟩ := id CY
          have GY : C3 ((((wR).setCell ⟨yb, 0, none⟩ (.slice ua s.n.length uac)).setCell ⟨yb, 1, none⟩ (.slice ub s.ws.length ubc)).setCell ⟨yb, 2, none⟩ (.slice uc s.ss.length ucc)) yb (.slice ua s.n.length uac) (.slice ub s.ws.length ubc) (.slice uc s.ss.length ucc) := ((CY.set0 _).set1 _).set2 _
          have RY := ((r3.far ⟨yb, 0, none⟩ (.slice ua s.n.length uac) (fun h => hne _ (.inl h) rfl) (fun h => hne _ (.inr (.inl h)) rfl) (fun h => hne _ (.inr (.inr h)) rfl)).far ⟨yb, 1, none⟩ (.slice ub s.ws.length ubc) (fun h => hne _ (.inl h) rfl) (fun h => hne _ (.inr (.inl h)) rfl) (fun h => hne _ (.inr (.inr h)) rfl)).far ⟨yb, 2, none⟩ (.slice uc s.ss.length ucc) (fun h => hne _ (.inl h) rfl) (fun h => hne _ (.inr (.inl h)) rfl) (fun h => hne _ (.inr (.inr h)) rfl)
          have BY : Below wr.heap.size wr ((((wR).setCell ⟨yb, 0, none⟩ (.slice ua s.n.length uac)).setCell ⟨yb, 1, none⟩ (.slice ub s.ws.length ubc)).setCell ⟨yb, 2, none⟩ (.slice uc s.ss.length ucc)) := ((hHeld.setCell hy8 _).setCell hy8 _).setCell hy8 _
          clear CY
          go_simp
          clear c0 c1 c2 f0 f1 f2
          generalize (((wR).setCell ⟨yb, 0, none⟩ (.slice ua s.n.length uac)).setCell ⟨yb, 1, none⟩ (.slice ub s.ws.length ubc)).setCell ⟨yb, 2, none⟩ (.slice uc s.ss.length ucc) = wF at GY RY BY ⊢
          refine hK.out _ _ (BY) (fun hHeld => ?_)
          clear hK K
          refine' wpAnyH_take (i := 16) (v := _) rfl (by kernel_rfl) (by kernel_rfl) (by kernel_rfl) (fun _ _ _ h => h) (Or.inl ⟨by rfl, ?hy44⟩) hHeld ?hn44
          case hy44 => (intro wz hSw; go_simp; first | done | with_reducible rfl)
          try simp only [List.getElem_toArray, List.getElem_cons_zero, List.getElem_cons_succ, Act.put, List.setIfInBounds_toArray, List.set_cons_zero, List.set_cons_succ]
          refine wpAnyH_done (by kernel_rfl) ?_ _
          clear hHeld
          have HYF : Hid (GRep (Value.int .i64) wF (.slice ua s.n.length uac) s.n) := RY.reps.1
          obtain ⟨ug, uo, hua⟩ : ∃ ug uo, ua = some ⟨ug, uo, none⟩ := by
            obtain ⟨a', c', hs', -, -, hcell'⟩ := HYF.out
            obtain ⟨b', off', h1', -⟩ := hcell' 0 (by have := HSL.out; omega)
            simp only [Value.slice.injEq] at hs'
            exact ⟨b', off', hs'.1.trans h1'⟩
          subst hua
          have cY : wF.cell? ⟨ug, uo, none⟩ = some (.int .i64 Y) := grep_at HYF.out (i := 0) HS0.out
          have hsl : 0 < s.n.length := by have := HSL.out; omega
          replace cw := cell_later BY cw
          obtain ⟨⟨ky0, ky1, ky2⟩, -⟩ := GY
          have HBF : Hid (Below wr.heap.size wr wF) := BY
          clear RY BY r3 hne
          go_wp2_with fail
          refine wp_region_held (S := (fun wz => Below wF.heap.size wF wz)) (by kernel_rfl) ?_
          change wpAnyH _ _ _ _ _ _ _ _ (World.drew _)
          have hHeld := (Below.refl wF.heap.size wF).drew
          refine' wpAnyH_take (i := 0) (v := _) rfl (by kernel_rfl) (by kernel_rfl) (by kernel_rfl) (fun _ _ _ h => h) (Or.inl ⟨by rfl, ?hy6x510⟩) hHeld ?hn6x510
          case hy6x510 => (intro wz hSw; (try dsimp only at hSw); go_simp; first | done | with_reducible rfl)
          try simp only [List.getElem_toArray, List.getElem_cons_zero, List.getElem_cons_succ, Act.put, List.setIfInBounds_toArray, List.set_cons_zero, List.set_cons_succ]
          refine' wpAnyH_take (i := 1) (v := _) rfl (by kernel_rfl) (by kernel_rfl) (by kernel_rfl) (fun _ _ _ h => h) (Or.inl ⟨by rfl, ?hy6x511⟩) hHeld ?hn6x511
          case hy6x511 => (intro wz hSw; (try dsimp only at hSw); go_simp; first | done | with_reducible rfl)
          try simp only [List.getElem_toArray, List.getElem_cons_zero, List.getElem_cons_succ, Act.put, List.setIfInBounds_toArray, List.set_cons_zero, List.set_cons_succ]
          refine' wpAnyH_take (i := 2) (v := _) rfl (by kernel_rfl) (by kernel_rfl) (by kernel_rfl) (fun _ _ _ h => h) (Or.inl ⟨by rfl, ?hy6x512⟩) hHeld ?hn6x512
          case hy6x512 => (intro wz hSw; (try dsimp only at hSw); go_simp; first | done | with_reducible rfl)
          try simp only [List.getElem_toArray, List.getElem_cons_zero, List.getElem_cons_succ, Act.put, List.setIfInBounds_toArray, List.set_cons_zero, List.set_cons_succ]
          refine' wpAnyH_take (i := 3) (v := _) rfl (by kernel_rfl) (by kernel_rfl) (by kernel_rfl) (fun _ _ _ h => h) (Or.inl ⟨by rfl, ?hy6x513⟩) hHeld ?hn6x513
          case hy6x513 => (intro wz hSw; (try dsimp only at hSw); go_simp; first | done | with_reducible rfl)
          try simp only [List.getElem_toArray, List.getElem_cons_zero, List.getElem_cons_succ, Act.put, List.setIfInBounds_toArray, List.set_cons_zero, List.set_cons_succ]
          refine' wpAnyH_take (i := 4) (v := (.slice (some ⟨ug, uo, none⟩) s.n.length uac)) rfl (by kernel_rfl) (by kernel_rfl) (by kernel_rfl) (fun _ _ _ h => h) (Or.inl ⟨by rfl, ?hy6x514⟩) hHeld ?hn6x514
          case hy6x514 => (intro wz hSw; have k := cell_later hSw ky0; go_simp)
          try simp only [List.getElem_toArray, List.getElem_cons_zero, List.getElem_cons_succ, Act.put, List.setIfInBounds_toArray, List.set_cons_zero, List.set_cons_succ]
          refine' wpAnyH_take (i := 5) (v := _) rfl (by kernel_rfl) (by kernel_rfl) (by kernel_rfl) (fun _ _ _ h => h) (Or.inl ⟨by rfl, ?hy6x515⟩) hHeld ?hn6x515
          case hy6x515 => (intro wz hSw; go_simp; first | done | with_reducible rfl | simp)
          try simp only [List.getElem_toArray, List.getElem_cons_zero, List.getElem_cons_succ, Act.put, List.setIfInBounds_toArray, List.set_cons_zero, List.set_cons_succ]
          refine' wpAnyH_take (i := 6) (v := (.int .i64 Y)) rfl (by kernel_rfl) (by kernel_rfl) (by kernel_rfl) (fun _ _ _ h => h) (Or.inl ⟨by rfl, ?hy6x516⟩) hHeld ?hn6x516
          case hy6x516 => (intro wz hSw; have k := cell_later hSw cY; go_simp)
          try simp only [List.getElem_toArray, List.getElem_cons_zero, List.getElem_cons_succ, Act.put, List.setIfInBounds_toArray, List.set_cons_zero, List.set_cons_succ]
          refine' wpAnyH_take (i := 7) (v := _) rfl (by kernel_rfl) (by kernel_rfl) (by kernel_rfl) (fun _ _ _ h => h) (Or.inl ⟨by rfl, ?hy6x517⟩) hHeld ?hn6x517
          case hy6x517 => (intro wz hSw; (try dsimp only at hSw); go_simp; first | done | with_reducible rfl)
          try simp only [List.getElem_toArray, List.getElem_cons_zero, List.getElem_cons_succ, Act.put, List.setIfInBounds_toArray, List.set_cons_zero, List.set_cons_succ]
          refine' wpAnyH_take (i := 8) (v := _) rfl (by kernel_rfl) (by kernel_rfl) (by kernel_rfl) (fun _ _ _ h => h) (Or.inl ⟨by rfl, ?hy6x518⟩) hHeld ?hn6x518
          case hy6x518 => (intro wz hSw; (try dsimp only at hSw); go_simp; first | done | with_reducible rfl)
          try simp only [List.getElem_toArray, List.getElem_cons_zero, List.getElem_cons_succ, Act.put, List.setIfInBounds_toArray, List.set_cons_zero, List.set_cons_succ]
          refine' wpAnyH_take (i := 9) (v := _) rfl (by kernel_rfl) (by kernel_rfl) (by kernel_rfl) (fun _ _ _ h => h) (Or.inl ⟨by rfl, ?hy6x519⟩) hHeld ?hn6x519
          case hy6x519 => (intro wz hSw; go_simp; first | done | with_reducible rfl | simp)
          try simp only [List.getElem_toArray, List.getElem_cons_zero, List.getElem_cons_succ, Act.put, List.setIfInBounds_toArray, List.set_cons_zero, List.set_cons_succ]
          refine' wpAnyH_take (i := 10) (v := (.int .i64 Y)) rfl (by kernel_rfl) (by kernel_rfl) (by kernel_rfl) (fun _ _ _ h => h) (Or.inl ⟨by rfl, ?hy6x520⟩) hHeld ?hn6x520
          case hy6x520 => (intro wz hSw; have k := cell_later hSw cw; go_simp)
          try simp only [List.getElem_toArray, List.getElem_cons_zero, List.getElem_cons_succ, Act.put, List.setIfInBounds_toArray, List.set_cons_zero, List.set_cons_succ]
          refine' wpAnyH_take (i := 11) (v := _) rfl (by kernel_rfl) (by kernel_rfl) (by kernel_rfl) (fun _ _ _ h => h) (Or.inl ⟨by rfl, ?hy6x521⟩) hHeld ?hn6x521
          case hy6x521 => (intro wz hSw; (try dsimp only at hSw); go_simp; first | done | with_reducible rfl)
          try simp only [List.getElem_toArray, List.getElem_cons_zero, List.getElem_cons_succ, Act.put, List.setIfInBounds_toArray, List.set_cons_zero, List.set_cons_succ]
          refine' wpAnyH_take (i := 12) (v := _) rfl (by kernel_rfl) (by kernel_rfl) (by kernel_rfl) (fun _ _ _ h => h) (Or.inl ⟨by rfl, ?hy6x522⟩) hHeld ?hn6x522
          case hy6x522 => (intro wz hSw; (try dsimp only at hSw); go_simp; first | done | with_reducible rfl)
          try simp only [List.getElem_toArray, List.getElem_cons_zero, List.getElem_cons_succ, Act.put, List.setIfInBounds_toArray, List.set_cons_zero, List.set_cons_succ]
          refine' wpAnyH_take (i := 13) (v := _) rfl (by kernel_rfl) (by kernel_rfl) (by kernel_rfl) (fun _ _ _ h => h) (Or.inl ⟨by rfl, ?hy6x523⟩) hHeld ?hn6x523
          case hy6x523 => (intro wz hSw; (try dsimp only at hSw); go_simp; first | done | with_reducible rfl)
          try simp only [List.getElem_toArray, List.getElem_cons_zero, List.getElem_cons_succ, Act.put, List.setIfInBounds_toArray, List.set_cons_zero, List.set_cons_succ]
          refine' wpAnyH_take (i := 14) (v := _) rfl (by kernel_rfl) (by kernel_rfl) (by kernel_rfl) (fun _ _ _ h => h) (Or.inl ⟨by rfl, ?hy6x524⟩) hHeld ?hn6x524
          case hy6x524 => (intro wz hSw; (try dsimp only at hSw); go_simp; first | done | with_reducible rfl)
          try simp only [List.getElem_toArray, List.getElem_cons_zero, List.getElem_cons_succ, Act.put, List.setIfInBounds_toArray, List.set_cons_zero, List.set_cons_succ]
          refine' wpAnyH_take (i := 15) (v := (.slice ub s.ws.length ubc)) rfl (by kernel_rfl) (by kernel_rfl) (by kernel_rfl) (fun _ _ _ h => h) (Or.inl ⟨by rfl, ?hy6x525⟩) hHeld ?hn6x525
          case hy6x525 => (intro wz hSw; have k := cell_later hSw ky1; go_simp)
          try simp only [List.getElem_toArray, List.getElem_cons_zero, List.getElem_cons_succ, Act.put, List.setIfInBounds_toArray, List.set_cons_zero, List.set_cons_succ]
          refine' wpAnyH_take (i := 16) (v := _) rfl (by kernel_rfl) (by kernel_rfl) (by kernel_rfl) (fun _ _ _ h => h) (Or.inl ⟨by rfl, ?hy6x526⟩) hHeld ?hn6x526
          case hy6x526 => (intro wz hSw; (try dsimp only at hSw); go_simp; first | done | with_reducible rfl)
          try simp only [List.getElem_toArray, List.getElem_cons_zero, List.getElem_cons_succ, Act.put, List.setIfInBounds_toArray, List.set_cons_zero, List.set_cons_succ]
          refine' wpAnyH_take (i := 17) (v := (.bool false)) rfl (by kernel_rfl) (by kernel_rfl) (by kernel_rfl) (fun _ _ _ h => h) (Or.inl ⟨by rfl, ?hy6x527⟩) hHeld ?hn6x527
          case hy6x527 => (intro wz hSw; have h := HWL.out; go_simp; first | done | simp [h])
          try simp only [List.getElem_toArray, List.getElem_cons_zero, List.getElem_cons_succ, Act.put, List.setIfInBounds_toArray, List.set_cons_zero, List.set_cons_succ]
          refine' wpAnyH_take (i := 18) (v := _) rfl (by kernel_rfl) (by kernel_rfl) (by kernel_rfl) (fun _ _ _ h => h) (Or.inl ⟨by rfl, ?hy6x528⟩) hHeld ?hn6x528
          case hy6x528 => (intro wz hSw; (try dsimp only at hSw); go_simp; first | done | with_reducible rfl)
          try simp only [List.getElem_toArray, List.getElem_cons_zero, List.getElem_cons_succ, Act.put, List.setIfInBounds_toArray, List.set_cons_zero, List.set_cons_succ]
          refine wpAnyH_done (by kernel_rfl) ?_ _
          have HBq : Hid (Below wS.heap.size wS _) := Below.then HBr.out (Below.then HBF.out hHeld HBF.out.size) HBr.out.size
          clear hHeld
          go_wp2
          exact ⟨⟨i + 1, by omega, by simp, HBq.out⟩, by simp [intOf]; omega⟩
      · have HBr : Hid (Below wS.heap.size wS wr) := hbr
        have : i = 4 := by omega
        subst this
        clear hbr
        go_wp2
        go_ret
        exact ⟨rfl, Below.then HB1.out (Below.then HB4.out (Below.then HBS.out HBr.out HBS.out.size) HB4.out.size) HB1.out.size⟩

end Go.Proofs.Ytepacahfpbedoaa
