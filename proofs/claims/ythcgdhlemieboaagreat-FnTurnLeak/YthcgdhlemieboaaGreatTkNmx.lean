/- Values of the program, by pointers to its numbers. -/
import Derived.Test.YthcgdhlemieboaaGreatTkDox
import Derived.Deep.DeepCutAuto
import Derived.Laws.EntriesVeiled
import Derived.Deep.RegionHeld3
namespace Go.Proofs.YthcgdhlemieboaaGreat
open Go.RowKit
set_option linter.unusedSimpArgs false
set_option linter.unusedVariables false
attribute [local go_sem] World.cell?_alloc_some

theorem numbersAt_any (b m : Nat) (w : World) (hm : m < 4) :
    Calls Tryz.prog 95 #[.pointer (some ⟨b, 0, none⟩), .int .i64 (m : Int)] w fun e w' => e = .returned (.pointer (some ⟨b, m, none⟩)) ∧ w' = w := by
  have h0 : (0 : Int) ≤ (m : Int) := by omega
  have h1 : (m : Int) < 4 := by omega
  go_enter Tryz.func95, Tryz.ntmps95
  go_wp2
  go_ret
  exact ⟨by simp, rfl⟩

theorem given_any (b : Nat) (vk va vb : Int) (w : World) :
    Calls Tryz.prog 98 #[.agg #[.int .i64 vk, .int .i64 va, .int .i64 vb], .pointer (some ⟨b, 0, none⟩)] w fun e w' => e = .returned (.int .i64 va) ∧ Below w.heap.size w w' := by
  go_enter Tryz.func98, Tryz.ntmps98
  go_wp2
  go_ret
  exact ⟨rfl, (Below.refl _ _).alloc (Nat.le_refl _) _⟩

theorem taken_any (b m : Nat) (vk vb x : Int) (w : World) (hm : m < 4) (hx : w.cell? ⟨b, m, none⟩ = some (.int .i64 x)) :
    Calls Tryz.prog 99 #[.agg #[.int .i64 vk, .int .i64 (m : Int), .int .i64 vb], .pointer (some ⟨b, 0, none⟩)] w fun e w' => e = .returned (.int .i64 x) ∧ Below w.heap.size w w' := by
  have A : Below w.heap.size w (w.alloc (.cells #[.int .i64 vk, .int .i64 (m : Int), .int .i64 vb] 64)) := (Below.refl _ _).alloc (Nat.le_refl _) _
  have HA : Hid _ := A
  clear A
  go_enter Tryz.func99, Tryz.ntmps99
  go_wp2_with fail
  go_at_call 95; refine (numbersAt_any _ _ _ hm).mono ?_; rintro e w1 ⟨rfl, hw1⟩
  rw [hw1]
  clear hw1 w1
  go_wp2
  go_ret
  exact ⟨rfl, HA.out⟩

set_option maxHeartbeats 2000000 in
theorem sum_any (b m q : Nat) (vk x y : Int) (w : World) (hm : m < 4) (hq : q < 4) (hx : w.cell? ⟨b, m, none⟩ = some (.int .i64 x)) (hy : w.cell? ⟨b, q, none⟩ = some (.int .i64 y)) (hx0 : 0 ≤ x ∧ x < 10) (hy0 : 0 ≤ y ∧ y < 10) :
    Calls Tryz.prog 100 #[.agg #[.int .i64 vk, .int .i64 (m : Int), .int .i64 (q : Int)], .pointer (some ⟨b, 0, none⟩)] w fun e w' => e = .returned (.int .i64 (Int.tmod (x + y) 10)) ∧ Below w.heap.size w w' := by
  have G := C3.new w (.int .i64 vk) (.int .i64 (m : Int)) (.int .i64 (q : Int)) 64
  have A : Below w.heap.size w (w.alloc (.cells #[.int .i64 vk, .int .i64 (m : Int), .int .i64 (q : Int)] 64)) := (Below.refl _ _).alloc (Nat.le_refl _) _
  generalize hW0 : w.alloc (.cells #[.int .i64 vk, .int .i64 (m : Int), .int .i64 (q : Int)] 64) = w0 at G A
  have HW0 : Hid _ := hW0
  obtain ⟨⟨c0, c1, c2⟩, -⟩ := G
  have k0 := cell_later A hx
  have k1 := cell_later A hy
  have HA : Hid _ := A
  clear hW0 hx hy A
  have v1 := w64 (x + y) (by omega)
  have v2 := w64 (Int.tmod (x + y) 10) (by rw [Int.tmod_eq_emod_of_nonneg (by omega)]; omega)
  go_enter Tryz.func100, Tryz.ntmps100
  go_wp2_with fail
  rw [HW0.out]
  refine wp_region_held (S := (fun wz => (wz.cell? ⟨w.heap.size, 0, none⟩ = some (.int .i64 vk) ∧ wz.cell? ⟨w.heap.size, 1, none⟩ = some (.int .i64 (m : Int)) ∧ wz.cell? ⟨w.heap.size, 2, none⟩ = some (.int .i64 (q : Int))) ∧ (wz.cell? ⟨b, m, none⟩ = some (.int .i64 x) ∧ wz.cell? ⟨b, q, none⟩ = some (.int .i64 y)) ∧ Below w0.heap.size w0 wz)) (by kernel_rfl) ?_
  change wpAnyH _ _ _ _ _ _ _ _ (World.drew _)
  have hHeld := SN1 ⟨⟨c0, c1, c2⟩, ⟨k0, k1⟩, Below.refl w0.heap.size w0⟩
  refine' wpAnyH_take (i := 0) (v := _) rfl (by kernel_rfl) (by kernel_rfl) (by kernel_rfl) (fun _ _ _ h => h) (Or.inl ⟨by rfl, ?hy70001⟩) hHeld ?hn70001
  case hy70001 => (intro wz hSw; (try dsimp only at hSw); go_simp; first | done | with_reducible rfl)
  try simp only [nrm, Act.put]
  refine' wpAnyH_take (i := 1) (v := _) rfl (by kernel_rfl) (by kernel_rfl) (by kernel_rfl) (fun _ _ _ h => h) (Or.inl ⟨by rfl, ?hy70002⟩) hHeld ?hn70002
  case hy70002 => (intro wz hSw; (try dsimp only at hSw); go_simp; first | done | with_reducible rfl)
  try simp only [nrm, Act.put]
  refine' wpAnyH_take (i := 2) (v := _) rfl (by kernel_rfl) (by kernel_rfl) (by kernel_rfl) (fun _ _ _ h => h) (Or.inl ⟨by rfl, ?hy70003⟩) hHeld ?hn70003
  case hy70003 => (intro wz hSw; (try dsimp only at hSw); go_simp; first | done | with_reducible rfl)
  try simp only [nrm, Act.put]
  refine' wpAnyH_take (i := 6) (v := _) rfl (by kernel_rfl) (by kernel_rfl) (by kernel_rfl) (fun _ _ _ h => h) (Or.inl ⟨by rfl, ?hy70004⟩) hHeld ?hn70004
  case hy70004 => (intro wz hSw; (try dsimp only at hSw); go_simp; first | done | with_reducible rfl)
  try simp only [nrm, Act.put]
  refine' wpAnyH_take (i := 7) (v := _) rfl (by kernel_rfl) (by kernel_rfl) (by kernel_rfl) (fun _ _ _ h => h) (Or.inl ⟨by rfl, ?hy70005⟩) hHeld ?hn70005
  case hy70005 => (intro wz hSw; (try dsimp only at hSw); go_simp; first | done | with_reducible rfl)
  try simp only [nrm, Act.put]
  refine' wpAnyH_take (i := 8) (v := _) rfl (by kernel_rfl) (by kernel_rfl) (by kernel_rfl) (fun _ _ _ h => h) (Or.inl ⟨by rfl, ?hy70006⟩) hHeld ?hn70006
  case hy70006 => (intro wz hSw; (try dsimp only at hSw); go_simp; first | done | with_reducible rfl)
  try simp only [nrm, Act.put]
  refine wpAnyH_ready (rs := [3]) (by kernel_rfl) (by simp) ?_
  refine AllReadyH.cons rfl (fun K hK => ?_) AllReadyH.nil
  go_simp
  refine (numbersAt_any _ _ _ hm).mono ?_; rintro e' w8 ⟨rfl, hw8⟩
  refine hK.out _ _ (by first | (rw [hw9]; first | exact hHeld | (rw [hw8] at hHeld; exact hHeld)) | (rw [hw8]; exact hHeld)) (fun hHeld => ?_)
  clear hK K
  refine' wpAnyH_take (i := 4) (v := _) rfl (by kernel_rfl) (by kernel_rfl) (by kernel_rfl) (fun _ _ _ h => h) (Or.inl ⟨by rfl, ?hy70007⟩) hHeld ?hn70007
  case hy70007 => (intro wz hSw; (try dsimp only at hSw); go_simp; first | done | with_reducible rfl)
  try simp only [nrm, Act.put]
  refine' wpAnyH_take (i := 5) (v := _) rfl (by kernel_rfl) (by kernel_rfl) (by kernel_rfl) (fun _ _ _ h => h) (Or.inl ⟨by rfl, ?hy70008⟩) hHeld ?hn70008
  case hy70008 => (intro wz hSw; (try dsimp only at hSw); go_simp; first | done | with_reducible rfl)
  try simp only [nrm, Act.put]
  refine wpAnyH_ready (rs := [9]) (by kernel_rfl) (by simp) ?_
  refine AllReadyH.cons rfl (fun K hK => ?_) AllReadyH.nil
  go_simp
  refine (numbersAt_any _ _ _ hq).mono ?_; rintro e' w9 ⟨rfl, hw9⟩
  refine hK.out _ _ (by first | (rw [hw9]; first | exact hHeld | (rw [hw8] at hHeld; exact hHeld)) | (rw [hw8]; exact hHeld)) (fun hHeld => ?_)
  clear hK K
  refine' wpAnyH_take (i := 10) (v := _) rfl (by kernel_rfl) (by kernel_rfl) (by kernel_rfl) (fun _ _ _ h => h) (Or.inl ⟨by rfl, ?hy70009⟩) hHeld ?hn70009
  case hy70009 => (intro wz hSw; (try dsimp only at hSw); go_simp; first | done | with_reducible rfl)
  try simp only [nrm, Act.put]
  refine' wpAnyH_take (i := 11) (v := _) rfl (by kernel_rfl) (by kernel_rfl) (by kernel_rfl) (fun _ _ _ h => h) (Or.inl ⟨by rfl, ?hy70010⟩) hHeld ?hn70010
  case hy70010 => (intro wz hSw; (try dsimp only at hSw); go_simp; first | done | with_reducible rfl)
  try simp only [nrm, Act.put]
  refine' wpAnyH_take (i := 12) (v := _) rfl (by kernel_rfl) (by kernel_rfl) (by kernel_rfl) (fun _ _ _ h => h) (Or.inl ⟨by rfl, ?hy70011⟩) hHeld ?hn70011
  case hy70011 => (intro wz hSw; (try dsimp only at hSw); go_simp; first | done | with_reducible rfl)
  try simp only [nrm, Act.put]
  refine' wpAnyH_take (i := 13) (v := _) rfl (by kernel_rfl) (by kernel_rfl) (by kernel_rfl) (fun _ _ _ h => h) (Or.inl ⟨by rfl, ?hy70012⟩) hHeld ?hn70012
  case hy70012 => (intro wz hSw; (try dsimp only at hSw); go_simp; first | done | with_reducible rfl)
  try simp only [nrm, Act.put]
  refine' wpAnyH_take (i := 14) (v := _) rfl (by kernel_rfl) (by kernel_rfl) (by kernel_rfl) (fun _ _ _ h => h) (Or.inl ⟨by rfl, ?hy70013⟩) hHeld ?hn70013
  case hy70013 => (intro wz hSw; (try dsimp only at hSw); go_simp; first | done | with_reducible rfl)
  try simp only [nrm, Act.put]
  refine wpAnyH_done (by kernel_rfl) ?_ _
  obtain ⟨_, _, hB9⟩ := hHeld
  go_wp2
  go_ret
  exact ⟨rfl, Below.then HA.out hB9 HA.out.size⟩

set_option maxHeartbeats 2000000 in
theorem same_any (b m q : Nat) (vk x y : Int) (w : World) (hm : m < 4) (hq : q < 4) (hx : w.cell? ⟨b, m, none⟩ = some (.int .i64 x)) (hy : w.cell? ⟨b, q, none⟩ = some (.int .i64 y)) (hx0 : 0 ≤ x ∧ x < 10) (hy0 : 0 ≤ y ∧ y < 10) :
    Calls Tryz.prog 101 #[.agg #[.int .i64 vk, .int .i64 (m : Int), .int .i64 (q : Int)], .pointer (some ⟨b, 0, none⟩)] w fun e w' => e = .returned (.int .i64 (if x = y then 1 else 0)) ∧ Below w.heap.size w w' := by
  have G := C3.new w (.int .i64 vk) (.int .i64 (m : Int)) (.int .i64 (q : Int)) 64
  have A : Below w.heap.size w (w.alloc (.cells #[.int .i64 vk, .int .i64 (m : Int), .int .i64 (q : Int)] 64)) := (Below.refl _ _).alloc (Nat.le_refl _) _
  generalize hW0 : w.alloc (.cells #[.int .i64 vk, .int .i64 (m : Int), .int .i64 (q : Int)] 64) = w0 at G A
  have HW0 : Hid _ := hW0
  obtain ⟨⟨c0, c1, c2⟩, -⟩ := G
  have k0 := cell_later A hx
  have k1 := cell_later A hy
  have HA : Hid _ := A
  clear hW0 hx hy A
  obtain ⟨z, hz⟩ : ∃ z : Int, (if x = y then (1 : Int) else 0) = z := ⟨_, rfl⟩
  rw [hz]
  have HZ : Hid ((if x = y then (1 : Int) else 0) = z) := hz
  clear hz
  go_enter Tryz.func101, Tryz.ntmps101
  go_wp2_with fail
  rw [HW0.out]
  refine wp_region_held (S := (fun wz => (wz.cell? ⟨w.heap.size, 0, none⟩ = some (.int .i64 vk) ∧ wz.cell? ⟨w.heap.size, 1, none⟩ = some (.int .i64 (m : Int)) ∧ wz.cell? ⟨w.heap.size, 2, none⟩ = some (.int .i64 (q : Int))) ∧ (wz.cell? ⟨b, m, none⟩ = some (.int .i64 x) ∧ wz.cell? ⟨b, q, none⟩ = some (.int .i64 y)) ∧ Below w0.heap.size w0 wz)) (by kernel_rfl) ?_
  change wpAnyH _ _ _ _ _ _ _ _ (World.drew _)
  have hHeld := SN1 ⟨⟨c0, c1, c2⟩, ⟨k0, k1⟩, Below.refl w0.heap.size w0⟩
  refine' wpAnyH_take (i := 0) (v := _) rfl (by kernel_rfl) (by kernel_rfl) (by kernel_rfl) (fun _ _ _ h => h) (Or.inl ⟨by rfl, ?hy70014⟩) hHeld ?hn70014
  case hy70014 => (intro wz hSw; (try dsimp only at hSw); go_simp; first | done | with_reducible rfl)
  try simp only [nrm, Act.put]
  refine' wpAnyH_take (i := 1) (v := _) rfl (by kernel_rfl) (by kernel_rfl) (by kernel_rfl) (fun _ _ _ h => h) (Or.inl ⟨by rfl, ?hy70015⟩) hHeld ?hn70015
  case hy70015 => (intro wz hSw; (try dsimp only at hSw); go_simp; first | done | with_reducible rfl)
  try simp only [nrm, Act.put]
  refine' wpAnyH_take (i := 2) (v := _) rfl (by kernel_rfl) (by kernel_rfl) (by kernel_rfl) (fun _ _ _ h => h) (Or.inl ⟨by rfl, ?hy70016⟩) hHeld ?hn70016
  case hy70016 => (intro wz hSw; (try dsimp only at hSw); go_simp; first | done | with_reducible rfl)
  try simp only [nrm, Act.put]
  refine' wpAnyH_take (i := 6) (v := _) rfl (by kernel_rfl) (by kernel_rfl) (by kernel_rfl) (fun _ _ _ h => h) (Or.inl ⟨by rfl, ?hy70017⟩) hHeld ?hn70017
  case hy70017 => (intro wz hSw; (try dsimp only at hSw); go_simp; first | done | with_reducible rfl)
  try simp only [nrm, Act.put]
  refine' wpAnyH_take (i := 7) (v := _) rfl (by kernel_rfl) (by kernel_rfl) (by kernel_rfl) (fun _ _ _ h => h) (Or.inl ⟨by rfl, ?hy70018⟩) hHeld ?hn70018
  case hy70018 => (intro wz hSw; (try dsimp only at hSw); go_simp; first | done | with_reducible rfl)
  try simp only [nrm, Act.put]
  refine' wpAnyH_take (i := 8) (v := _) rfl (by kernel_rfl) (by kernel_rfl) (by kernel_rfl) (fun _ _ _ h => h) (Or.inl ⟨by rfl, ?hy70019⟩) hHeld ?hn70019
  case hy70019 => (intro wz hSw; (try dsimp only at hSw); go_simp; first | done | with_reducible rfl)
  try simp only [nrm, Act.put]
  refine wpAnyH_ready (rs := [3]) (by kernel_rfl) (by simp) ?_
  refine AllReadyH.cons rfl (fun K hK => ?_) AllReadyH.nil
  go_simp
  refine (numbersAt_any _ _ _ hm).mono ?_; rintro e' w8 ⟨rfl, hw8⟩
  refine hK.out _ _ (by first | (rw [hw9]; first | exact hHeld | (rw [hw8] at hHeld; exact hHeld)) | (rw [hw8]; exact hHeld)) (fun hHeld => ?_)
  clear hK K
  refine' wpAnyH_take (i := 4) (v := _) rfl (by kernel_rfl) (by kernel_rfl) (by kernel_rfl) (fun _ _ _ h => h) (Or.inl ⟨by rfl, ?hy70020⟩) hHeld ?hn70020
  case hy70020 => (intro wz hSw; (try dsimp only at hSw); go_simp; first | done | with_reducible rfl)
  try simp only [nrm, Act.put]
  refine' wpAnyH_take (i := 5) (v := _) rfl (by kernel_rfl) (by kernel_rfl) (by kernel_rfl) (fun _ _ _ h => h) (Or.inl ⟨by rfl, ?hy70021⟩) hHeld ?hn70021
  case hy70021 => (intro wz hSw; (try dsimp only at hSw); go_simp; first | done | with_reducible rfl)
  try simp only [nrm, Act.put]
  refine wpAnyH_ready (rs := [9]) (by kernel_rfl) (by simp) ?_
  refine AllReadyH.cons rfl (fun K hK => ?_) AllReadyH.nil
  go_simp
  refine (numbersAt_any _ _ _ hq).mono ?_; rintro e' w9 ⟨rfl, hw9⟩
  refine hK.out _ _ (by first | (rw [hw9]; first | exact hHeld | (rw [hw8] at hHeld; exact hHeld)) | (rw [hw8]; exact hHeld)) (fun hHeld => ?_)
  clear hK K
  refine' wpAnyH_take (i := 10) (v := _) rfl (by kernel_rfl) (by kernel_rfl) (by kernel_rfl) (fun _ _ _ h => h) (Or.inl ⟨by rfl, ?hy70022⟩) hHeld ?hn70022
  case hy70022 => (intro wz hSw; (try dsimp only at hSw); go_simp; first | done | with_reducible rfl)
  try simp only [nrm, Act.put]
  refine' wpAnyH_take (i := 11) (v := _) rfl (by kernel_rfl) (by kernel_rfl) (by kernel_rfl) (fun _ _ _ h => h) (Or.inl ⟨by rfl, ?hy70023⟩) hHeld ?hn70023
  case hy70023 => (intro wz hSw; (try dsimp only at hSw); go_simp; first | done | with_reducible rfl)
  try simp only [nrm, Act.put]
  refine' wpAnyH_take (i := 12) (v := _) rfl (by kernel_rfl) (by kernel_rfl) (by kernel_rfl) (fun _ _ _ h => h) (Or.inl ⟨by rfl, ?hy70024⟩) hHeld ?hn70024
  case hy70024 => (intro wz hSw; (try dsimp only at hSw); go_simp; first | done | with_reducible rfl)
  try simp only [nrm, Act.put]
  refine wpAnyH_done (by kernel_rfl) ?_ _
  obtain ⟨_, _, hB9⟩ := hHeld
  by_cases hxy : x = y
  · have HE : Hid (z = 1) := (show z = 1 by rw [← HZ.out, if_pos hxy])
    go_wp2
    go_ret
    exact ⟨by rw [HE.out]; rfl, Below.then HA.out hB9 HA.out.size⟩
  · have HE : Hid (z = 0) := (show z = 0 by rw [← HZ.out, if_neg hxy])
    go_wp2
    go_ret
    exact ⟨by rw [HE.out]; rfl, Below.then HA.out hB9 HA.out.size⟩

end Go.Proofs.YthcgdhlemieboaaGreat

namespace Go.Proofs.YthcgdhlemieboaaGreat
open Go.RowKit
set_option linter.unusedSimpArgs false
set_option linter.unusedVariables false
attribute [local go_sem] World.cell?_alloc_some

set_option maxHeartbeats 4000000 in
set_option maxRecDepth 20000 in
theorem number_any (b : Nat) (ns : List Int) (vk va vb : Int) (w : World) (hl : ns.length ≤ 4) (hc : ∀ i (hi : i < ns.length), w.cell? ⟨b, i, none⟩ = some (.int .i64 ns[i])) (hv : valB ns.length vk va vb = true) (ht : tenB ns = true) :
    Calls Tryz.prog 96 #[.agg #[.int .i64 vk, .int .i64 va, .int .i64 vb], .pointer (some ⟨b, 0, none⟩)] w fun e w' => e = .returned (.int .i64 (numV vk va vb ns)) ∧ Below w.heap.size w w' := by
  have G := C3.new w (.int .i64 vk) (.int .i64 va) (.int .i64 vb) 64
  have A : Below w.heap.size w (w.alloc (.cells #[.int .i64 vk, .int .i64 va, .int .i64 vb] 64)) := (Below.refl _ _).alloc (Nat.le_refl _) _
  obtain ⟨nv, hnv⟩ : ∃ nv, numV vk va vb ns = nv := ⟨_, rfl⟩
  rw [hnv]
  have HNV : Hid (numV vk va vb ns = nv) := hnv
  have HCC : Hid _ := hc
  clear hnv hc
  go_enter Tryz.func96, Tryz.ntmps96
  go_upto_region 2 with fail
  have AX : Below w.heap.size w ((w.alloc (.cells #[.int .i64 vk, .int .i64 va, .int .i64 vb] 64)).alloc (.cells #[.nilFunc, .func (.func 98) #[] #[], .func (.func 99) #[] #[], .func (.func 100) #[] #[], .func (.func 101) #[] #[]] 159)) := ((Below.refl _ _).alloc (Nat.le_refl _) _).alloc (by simp) _
  have c0 : ((w.alloc (.cells #[.int .i64 vk, .int .i64 va, .int .i64 vb] 64)).alloc (.cells #[.nilFunc, .func (.func 98) #[] #[], .func (.func 99) #[] #[], .func (.func 100) #[] #[], .func (.func 101) #[] #[]] 159)).cell? ⟨w.heap.size, 0, none⟩ = some (.int .i64 vk) := by simp [go_sem]
  have c1 : ((w.alloc (.cells #[.int .i64 vk, .int .i64 va, .int .i64 vb] 64)).alloc (.cells #[.nilFunc, .func (.func 98) #[] #[], .func (.func 99) #[] #[], .func (.func 100) #[] #[], .func (.func 101) #[] #[]] 159)).cell? ⟨w.heap.size, 1, none⟩ = some (.int .i64 va) := by simp [go_sem]
  have c2 : ((w.alloc (.cells #[.int .i64 vk, .int .i64 va, .int .i64 vb] 64)).alloc (.cells #[.nilFunc, .func (.func 98) #[] #[], .func (.func 99) #[] #[], .func (.func 100) #[] #[], .func (.func 101) #[] #[]] 159)).cell? ⟨w.heap.size, 2, none⟩ = some (.int .i64 vb) := by simp [go_sem]
  have t1 : ((w.alloc (.cells #[.int .i64 vk, .int .i64 va, .int .i64 vb] 64)).alloc (.cells #[.nilFunc, .func (.func 98) #[] #[], .func (.func 99) #[] #[], .func (.func 100) #[] #[], .func (.func 101) #[] #[]] 159)).cell? ⟨w.heap.size + 1, 1, none⟩ = some (.func (.func 98) #[] #[]) := by simp [go_sem]
  have t2 : ((w.alloc (.cells #[.int .i64 vk, .int .i64 va, .int .i64 vb] 64)).alloc (.cells #[.nilFunc, .func (.func 98) #[] #[], .func (.func 99) #[] #[], .func (.func 100) #[] #[], .func (.func 101) #[] #[]] 159)).cell? ⟨w.heap.size + 1, 2, none⟩ = some (.func (.func 99) #[] #[]) := by simp [go_sem]
  have t3 : ((w.alloc (.cells #[.int .i64 vk, .int .i64 va, .int .i64 vb] 64)).alloc (.cells #[.nilFunc, .func (.func 98) #[] #[], .func (.func 99) #[] #[], .func (.func 100) #[] #[], .func (.func 101) #[] #[]] 159)).cell? ⟨w.heap.size + 1, 3, none⟩ = some (.func (.func 100) #[] #[]) := by simp [go_sem]
  have t4 : ((w.alloc (.cells #[.int .i64 vk, .int .i64 va, .int .i64 vb] 64)).alloc (.cells #[.nilFunc, .func (.func 98) #[] #[], .func (.func 99) #[] #[], .func (.func 100) #[] #[], .func (.func 101) #[] #[]] 159)).cell? ⟨w.heap.size + 1, 4, none⟩ = some (.func (.func 101) #[] #[]) := by simp [go_sem]
  have zX : ((w.alloc (.cells #[.int .i64 vk, .int .i64 va, .int .i64 vb] 64)).alloc (.cells #[.nilFunc, .func (.func 98) #[] #[], .func (.func 99) #[] #[], .func (.func 100) #[] #[], .func (.func 101) #[] #[]] 159)).heap.size = w.heap.size + 2 := by simp
  generalize ((w.alloc (.cells #[.int .i64 vk, .int .i64 va, .int .i64 vb] 64)).alloc (.cells #[.nilFunc, .func (.func 98) #[] #[], .func (.func 99) #[] #[], .func (.func 100) #[] #[], .func (.func 101) #[] #[]] 159)) = X at AX c0 c1 c2 t1 t2 t3 t4 zX ⊢
  have nx : w.heap.size < X.heap.size := by omega
  have nt : w.heap.size + 1 < X.heap.size := by omega
  have HAX : Hid (Below w.heap.size w X) := AX
  have HN : Hid (∀ wz, Below X.heap.size X wz → ∀ i (hi : i < ns.length), wz.cell? ⟨b, i, none⟩ = some (.int .i64 ns[i])) := (show ∀ wz, _ from fun wz hb i hi => cell_later hb (cell_later HAX.out (HCC.out i hi)))
  clear AX zX HCC G A
  have hk4 : vk = 1 ∨ vk = 2 ∨ vk = 3 ∨ vk = 4 := by
    unfold valB at hv
    split at hv
    · exact .inl ‹_›
    · split at hv
      · exact .inr (.inl ‹_›)
      · split at hv
        · exact .inr (.inr ‹_›)
        · cases hv
  rcases hk4 with hk | hk | hk | hk
  · subst hk
    have HE : Hid (nv = va) := (show nv = va by rw [← HNV.out]; simp [numV])
    refine wp_region_held (S := (fun wz => Below X.heap.size X wz)) (by kernel_rfl) ?_
    change wpAnyH _ _ _ _ _ _ _ _ (World.drew _)
    have hHeld := (show Below X.heap.size X (World.drew X) from (Below.refl _ _).drew)
    refine' wpAnyH_take (i := 0) (v := _) rfl (by kernel_rfl) (by kernel_rfl) (by kernel_rfl) (fun _ _ _ h => h) (Or.inl ⟨by rfl, ?hy80001⟩) hHeld ?hn80001
    case hy80001 => (intro wz hSw; (try dsimp only at hSw); go_simp; first | done | with_reducible rfl)
    try simp only [nrm, Act.put]
    refine' wpAnyH_take (i := 1) (v := .int .i64 1) rfl (by kernel_rfl) (by kernel_rfl) (by kernel_rfl) (fun _ _ _ h => h) (Or.inl ⟨by rfl, ?hy80002⟩) hHeld ?hn80002
    case hy80002 => (intro wz hSw; have j0 := (hSw.cell (p := ⟨w.heap.size, 0, none⟩) nx).trans c0; go_simp)
    try simp only [nrm, Act.put]
    refine' wpAnyH_take (i := 2) (v := _) rfl (by kernel_rfl) (by kernel_rfl) (by kernel_rfl) (fun _ _ _ h => h) (Or.inl ⟨by rfl, ?hy80003⟩) hHeld ?hn80003
    case hy80003 => (intro wz hSw; (try dsimp only at hSw); go_simp; first | done | with_reducible rfl)
    try simp only [nrm, Act.put]
    refine' wpAnyH_take (i := 3) (v := .func (.func 98) #[] #[]) rfl (by kernel_rfl) (by kernel_rfl) (by kernel_rfl) (fun _ _ _ h => h) (Or.inl ⟨by rfl, ?hy80004⟩) hHeld ?hn80004
    case hy80004 => (intro wz hSw; have j0 := (hSw.cell (p := ⟨w.heap.size + 1, 1, none⟩) nt).trans t1; go_simp)
    try simp only [nrm, Act.put]
    refine' wpAnyH_take (i := 4) (v := .agg #[.int .i64 1, .int .i64 va, .int .i64 vb]) rfl (by kernel_rfl) (by kernel_rfl) (by kernel_rfl) (fun _ _ _ h => h) (Or.inl ⟨by rfl, ?hy80005⟩) hHeld ?hn80005
    case hy80005 => (intro wz hSw; have j0 := (hSw.cell (p := ⟨w.heap.size, 0, none⟩) nx).trans c0; have j1 := (hSw.cell (p := ⟨w.heap.size, 1, none⟩) nx).trans c1; have j2 := (hSw.cell (p := ⟨w.heap.size, 2, none⟩) nx).trans c2; go_simp)
    try simp only [nrm, Act.put]
    refine' wpAnyH_take (i := 5) (v := _) rfl (by kernel_rfl) (by kernel_rfl) (by kernel_rfl) (fun _ _ _ h => h) (Or.inl ⟨by rfl, ?hy80006⟩) hHeld ?hn80006
    case hy80006 => (intro wz hSw; (try dsimp only at hSw); go_simp; first | done | with_reducible rfl)
    try simp only [nrm, Act.put]
    refine wpAnyH_ready (rs := [6]) (by kernel_rfl) (by simp) ?_
    refine AllReadyH.cons rfl (fun K hK => ?_) AllReadyH.nil
    go_simp
    refine (given_any b 1 va vb _).mono ?_; rintro e' w9 ⟨rfl, hbx⟩
    refine hK.out _ _ (Below.then hHeld hbx hHeld.size) (fun hHeld => ?_)
    clear hK K
    refine' wpAnyH_take (i := 7) (v := _) rfl (by kernel_rfl) (by kernel_rfl) (by kernel_rfl) (fun _ _ _ h => h) (Or.inl ⟨by rfl, ?hy80007⟩) hHeld ?hn80007
    case hy80007 => (intro wz hSw; (try dsimp only at hSw); go_simp; first | done | with_reducible rfl)
    try simp only [nrm, Act.put]
    refine wpAnyH_done (by kernel_rfl) ?_ _
    have HB9 : Hid (Below X.heap.size X w9) := hHeld
    clear hHeld
    go_wp2
    go_ret
    exact ⟨by rw [HE.out]; rfl, Below.then HAX.out HB9.out HAX.out.size⟩
  · subst hk
    have hv' : vIn ns.length va = true := by simp [valB] at hv; exact hv.1
    obtain ⟨h1, h2⟩ : 0 ≤ va ∧ va < ns.length := by simpa [vIn] using hv'
    obtain ⟨m, rfl⟩ := Int.eq_ofNat_of_zero_le h1
    have hm : m < ns.length := by omega
    have HE : Hid (nv = ns[m]) := (show nv = ns[m] by rw [← HNV.out]; simp [numV, hm])
    have HM : Hid (∀ wz, Below X.heap.size X wz → wz.cell? ⟨b, m, none⟩ = some (.int .i64 ns[m])) := (show ∀ wz, _ from fun wz hb => HN.out wz hb m hm)
    generalize ns[m] = x at *
    refine wp_region_held (S := (fun wz => Below X.heap.size X wz)) (by kernel_rfl) ?_
    change wpAnyH _ _ _ _ _ _ _ _ (World.drew _)
    have hHeld := (show Below X.heap.size X (World.drew X) from (Below.refl _ _).drew)
    refine' wpAnyH_take (i := 0) (v := _) rfl (by kernel_rfl) (by kernel_rfl) (by kernel_rfl) (fun _ _ _ h => h) (Or.inl ⟨by rfl, ?hy80008⟩) hHeld ?hn80008
    case hy80008 => (intro wz hSw; (try dsimp only at hSw); go_simp; first | done | with_reducible rfl)
    try simp only [nrm, Act.put]
    refine' wpAnyH_take (i := 1) (v := .int .i64 2) rfl (by kernel_rfl) (by kernel_rfl) (by kernel_rfl) (fun _ _ _ h => h) (Or.inl ⟨by rfl, ?hy80009⟩) hHeld ?hn80009
    case hy80009 => (intro wz hSw; have j0 := (hSw.cell (p := ⟨w.heap.size, 0, none⟩) nx).trans c0; go_simp)
    try simp only [nrm, Act.put]
    refine' wpAnyH_take (i := 2) (v := _) rfl (by kernel_rfl) (by kernel_rfl) (by kernel_rfl) (fun _ _ _ h => h) (Or.inl ⟨by rfl, ?hy80010⟩) hHeld ?hn80010
    case hy80010 => (intro wz hSw; (try dsimp only at hSw); go_simp; first | done | with_reducible rfl)
    try simp only [nrm, Act.put]
    refine' wpAnyH_take (i := 3) (v := .func (.func 99) #[] #[]) rfl (by kernel_rfl) (by kernel_rfl) (by kernel_rfl) (fun _ _ _ h => h) (Or.inl ⟨by rfl, ?hy80011⟩) hHeld ?hn80011
    case hy80011 => (intro wz hSw; have j0 := (hSw.cell (p := ⟨w.heap.size + 1, 2, none⟩) nt).trans t2; go_simp)
    try simp only [nrm, Act.put]
    refine' wpAnyH_take (i := 4) (v := .agg #[.int .i64 2, .int .i64 (m : Int), .int .i64 vb]) rfl (by kernel_rfl) (by kernel_rfl) (by kernel_rfl) (fun _ _ _ h => h) (Or.inl ⟨by rfl, ?hy80012⟩) hHeld ?hn80012
    case hy80012 => (intro wz hSw; have j0 := (hSw.cell (p := ⟨w.heap.size, 0, none⟩) nx).trans c0; have j1 := (hSw.cell (p := ⟨w.heap.size, 1, none⟩) nx).trans c1; have j2 := (hSw.cell (p := ⟨w.heap.size, 2, none⟩) nx).trans c2; go_simp)
    try simp only [nrm, Act.put]
    refine' wpAnyH_take (i := 5) (v := _) rfl (by kernel_rfl) (by kernel_rfl) (by kernel_rfl) (fun _ _ _ h => h) (Or.inl ⟨by rfl, ?hy80013⟩) hHeld ?hn80013
    case hy80013 => (intro wz hSw; (try dsimp only at hSw); go_simp; first | done | with_reducible rfl)
    try simp only [nrm, Act.put]
    refine wpAnyH_ready (rs := [6]) (by kernel_rfl) (by simp) ?_
    refine AllReadyH.cons rfl (fun K hK => ?_) AllReadyH.nil
    go_simp
    refine (taken_any b m 2 vb x _ (by omega) (HM.out _ hHeld)).mono ?_; rintro e' w9 ⟨rfl, hbx⟩
    refine hK.out _ _ (Below.then hHeld hbx hHeld.size) (fun hHeld => ?_)
    clear hK K
    refine' wpAnyH_take (i := 7) (v := _) rfl (by kernel_rfl) (by kernel_rfl) (by kernel_rfl) (fun _ _ _ h => h) (Or.inl ⟨by rfl, ?hy80014⟩) hHeld ?hn80014
    case hy80014 => (intro wz hSw; (try dsimp only at hSw); go_simp; first | done | with_reducible rfl)
    try simp only [nrm, Act.put]
    refine wpAnyH_done (by kernel_rfl) ?_ _
    have HB9 : Hid (Below X.heap.size X w9) := hHeld
    clear hHeld
    go_wp2
    go_ret
    exact ⟨by rw [HE.out]; rfl, Below.then HAX.out HB9.out HAX.out.size⟩
  · subst hk
    have hv' : (vIn ns.length va && vIn ns.length vb) = true := by simpa [valB] using hv
    obtain ⟨h1, h2⟩ : (0 ≤ va ∧ va < ns.length) ∧ (0 ≤ vb ∧ vb < ns.length) := by simpa [vIn] using hv'
    obtain ⟨m, rfl⟩ := Int.eq_ofNat_of_zero_le h1.1
    obtain ⟨q, rfl⟩ := Int.eq_ofNat_of_zero_le h2.1
    have hm : m < ns.length := by omega
    have hq : q < ns.length := by omega
    have tm := ten_get ns m hm ht
    have tq := ten_get ns q hq ht
    have HE : Hid (nv = Int.tmod (ns[m] + ns[q]) 10) := (show nv = Int.tmod (ns[m] + ns[q]) 10 by rw [← HNV.out]; simp [numV, hm, hq])
    have HM : Hid (∀ wz, Below X.heap.size X wz → wz.cell? ⟨b, m, none⟩ = some (.int .i64 ns[m]) ∧ wz.cell? ⟨b, q, none⟩ = some (.int .i64 ns[q])) := (show ∀ wz, _ from fun wz hb => ⟨HN.out wz hb m hm, HN.out wz hb q hq⟩)
    generalize ns[m] = x at *
    generalize ns[q] = y at *
    refine wp_region_held (S := (fun wz => Below X.heap.size X wz)) (by kernel_rfl) ?_
    change wpAnyH _ _ _ _ _ _ _ _ (World.drew _)
    have hHeld := (show Below X.heap.size X (World.drew X) from (Below.refl _ _).drew)
    refine' wpAnyH_take (i := 0) (v := _) rfl (by kernel_rfl) (by kernel_rfl) (by kernel_rfl) (fun _ _ _ h => h) (Or.inl ⟨by rfl, ?hy80015⟩) hHeld ?hn80015
    case hy80015 => (intro wz hSw; (try dsimp only at hSw); go_simp; first | done | with_reducible rfl)
    try simp only [nrm, Act.put]
    refine' wpAnyH_take (i := 1) (v := .int .i64 3) rfl (by kernel_rfl) (by kernel_rfl) (by kernel_rfl) (fun _ _ _ h => h) (Or.inl ⟨by rfl, ?hy80016⟩) hHeld ?hn80016
    case hy80016 => (intro wz hSw; have j0 := (hSw.cell (p := ⟨w.heap.size, 0, none⟩) nx).trans c0; go_simp)
    try simp only [nrm, Act.put]
    refine' wpAnyH_take (i := 2) (v := _) rfl (by kernel_rfl) (by kernel_rfl) (by kernel_rfl) (fun _ _ _ h => h) (Or.inl ⟨by rfl, ?hy80017⟩) hHeld ?hn80017
    case hy80017 => (intro wz hSw; (try dsimp only at hSw); go_simp; first | done | with_reducible rfl)
    try simp only [nrm, Act.put]
    refine' wpAnyH_take (i := 3) (v := .func (.func 100) #[] #[]) rfl (by kernel_rfl) (by kernel_rfl) (by kernel_rfl) (fun _ _ _ h => h) (Or.inl ⟨by rfl, ?hy80018⟩) hHeld ?hn80018
    case hy80018 => (intro wz hSw; have j0 := (hSw.cell (p := ⟨w.heap.size + 1, 3, none⟩) nt).trans t3; go_simp)
    try simp only [nrm, Act.put]
    refine' wpAnyH_take (i := 4) (v := .agg #[.int .i64 3, .int .i64 (m : Int), .int .i64 (q : Int)]) rfl (by kernel_rfl) (by kernel_rfl) (by kernel_rfl) (fun _ _ _ h => h) (Or.inl ⟨by rfl, ?hy80019⟩) hHeld ?hn80019
    case hy80019 => (intro wz hSw; have j0 := (hSw.cell (p := ⟨w.heap.size, 0, none⟩) nx).trans c0; have j1 := (hSw.cell (p := ⟨w.heap.size, 1, none⟩) nx).trans c1; have j2 := (hSw.cell (p := ⟨w.heap.size, 2, none⟩) nx).trans c2; go_simp)
    try simp only [nrm, Act.put]
    refine' wpAnyH_take (i := 5) (v := _) rfl (by kernel_rfl) (by kernel_rfl) (by kernel_rfl) (fun _ _ _ h => h) (Or.inl ⟨by rfl, ?hy80020⟩) hHeld ?hn80020
    case hy80020 => (intro wz hSw; (try dsimp only at hSw); go_simp; first | done | with_reducible rfl)
    try simp only [nrm, Act.put]
    refine wpAnyH_ready (rs := [6]) (by kernel_rfl) (by simp) ?_
    refine AllReadyH.cons rfl (fun K hK => ?_) AllReadyH.nil
    go_simp
    refine (sum_any b m q 3 x y _ (by omega) (by omega) (HM.out _ hHeld).1 (HM.out _ hHeld).2 tm tq).mono ?_; rintro e' w9 ⟨rfl, hbx⟩
    refine hK.out _ _ (Below.then hHeld hbx hHeld.size) (fun hHeld => ?_)
    clear hK K
    refine' wpAnyH_take (i := 7) (v := _) rfl (by kernel_rfl) (by kernel_rfl) (by kernel_rfl) (fun _ _ _ h => h) (Or.inl ⟨by rfl, ?hy80021⟩) hHeld ?hn80021
    case hy80021 => (intro wz hSw; (try dsimp only at hSw); go_simp; first | done | with_reducible rfl)
    try simp only [nrm, Act.put]
    refine wpAnyH_done (by kernel_rfl) ?_ _
    have HB9 : Hid (Below X.heap.size X w9) := hHeld
    clear hHeld
    go_wp2
    go_ret
    exact ⟨by rw [HE.out]; rfl, Below.then HAX.out HB9.out HAX.out.size⟩
  · subst hk
    have hv' : (vIn ns.length va && vIn ns.length vb) = true := by simpa [valB] using hv
    obtain ⟨h1, h2⟩ : (0 ≤ va ∧ va < ns.length) ∧ (0 ≤ vb ∧ vb < ns.length) := by simpa [vIn] using hv'
    obtain ⟨m, rfl⟩ := Int.eq_ofNat_of_zero_le h1.1
    obtain ⟨q, rfl⟩ := Int.eq_ofNat_of_zero_le h2.1
    have hm : m < ns.length := by omega
    have hq : q < ns.length := by omega
    have tm := ten_get ns m hm ht
    have tq := ten_get ns q hq ht
    have HE : Hid (nv = if ns[m] = ns[q] then 1 else 0) := (show nv = if ns[m] = ns[q] then 1 else 0 by rw [← HNV.out]; simp [numV, hm, hq])
    have HM : Hid (∀ wz, Below X.heap.size X wz → wz.cell? ⟨b, m, none⟩ = some (.int .i64 ns[m]) ∧ wz.cell? ⟨b, q, none⟩ = some (.int .i64 ns[q])) := (show ∀ wz, _ from fun wz hb => ⟨HN.out wz hb m hm, HN.out wz hb q hq⟩)
    generalize ns[m] = x at *
    generalize ns[q] = y at *
    obtain ⟨zz, hzz⟩ : ∃ zz : Int, (if x = y then (1 : Int) else 0) = zz := ⟨_, rfl⟩
    rw [hzz] at HE
    have HZZ : Hid _ := hzz
    clear hzz
    refine wp_region_held (S := (fun wz => Below X.heap.size X wz)) (by kernel_rfl) ?_
    change wpAnyH _ _ _ _ _ _ _ _ (World.drew _)
    have hHeld := (show Below X.heap.size X (World.drew X) from (Below.refl _ _).drew)
    refine' wpAnyH_take (i := 0) (v := _) rfl (by kernel_rfl) (by kernel_rfl) (by kernel_rfl) (fun _ _ _ h => h) (Or.inl ⟨by rfl, ?hy80022⟩) hHeld ?hn80022
    case hy80022 => (intro wz hSw; (try dsimp only at hSw); go_simp; first | done | with_reducible rfl)
    try simp only [nrm, Act.put]
    refine' wpAnyH_take (i := 1) (v := .int .i64 4) rfl (by kernel_rfl) (by kernel_rfl) (by kernel_rfl) (fun _ _ _ h => h) (Or.inl ⟨by rfl, ?hy80023⟩) hHeld ?hn80023
    case hy80023 => (intro wz hSw; have j0 := (hSw.cell (p := ⟨w.heap.size, 0, none⟩) nx).trans c0; go_simp)
    try simp only [nrm, Act.put]
    refine' wpAnyH_take (i := 2) (v := _) rfl (by kernel_rfl) (by kernel_rfl) (by kernel_rfl) (fun _ _ _ h => h) (Or.inl ⟨by rfl, ?hy80024⟩) hHeld ?hn80024
    case hy80024 => (intro wz hSw; (try dsimp only at hSw); go_simp; first | done | with_reducible rfl)
    try simp only [nrm, Act.put]
    refine' wpAnyH_take (i := 3) (v := .func (.func 101) #[] #[]) rfl (by kernel_rfl) (by kernel_rfl) (by kernel_rfl) (fun _ _ _ h => h) (Or.inl ⟨by rfl, ?hy80025⟩) hHeld ?hn80025
    case hy80025 => (intro wz hSw; have j0 := (hSw.cell (p := ⟨w.heap.size + 1, 4, none⟩) nt).trans t4; go_simp)
    try simp only [nrm, Act.put]
    refine' wpAnyH_take (i := 4) (v := .agg #[.int .i64 4, .int .i64 (m : Int), .int .i64 (q : Int)]) rfl (by kernel_rfl) (by kernel_rfl) (by kernel_rfl) (fun _ _ _ h => h) (Or.inl ⟨by rfl, ?hy80026⟩) hHeld ?hn80026
    case hy80026 => (intro wz hSw; have j0 := (hSw.cell (p := ⟨w.heap.size, 0, none⟩) nx).trans c0; have j1 := (hSw.cell (p := ⟨w.heap.size, 1, none⟩) nx).trans c1; have j2 := (hSw.cell (p := ⟨w.heap.size, 2, none⟩) nx).trans c2; go_simp)
    try simp only [nrm, Act.put]
    refine' wpAnyH_take (i := 5) (v := _) rfl (by kernel_rfl) (by kernel_rfl) (by kernel_rfl) (fun _ _ _ h => h) (Or.inl ⟨by rfl, ?hy80027⟩) hHeld ?hn80027
    case hy80027 => (intro wz hSw; (try dsimp only at hSw); go_simp; first | done | with_reducible rfl)
    try simp only [nrm, Act.put]
    refine wpAnyH_ready (rs := [6]) (by kernel_rfl) (by simp) ?_
    refine AllReadyH.cons rfl (fun K hK => ?_) AllReadyH.nil
    go_simp
    refine (same_any b m q 4 x y _ (by omega) (by omega) (HM.out _ hHeld).1 (HM.out _ hHeld).2 tm tq).mono ?_; rintro e' w9 ⟨rfl, hbx⟩; rw [HZZ.out]
    refine hK.out _ _ (Below.then hHeld hbx hHeld.size) (fun hHeld => ?_)
    clear hK K
    refine' wpAnyH_take (i := 7) (v := _) rfl (by kernel_rfl) (by kernel_rfl) (by kernel_rfl) (fun _ _ _ h => h) (Or.inl ⟨by rfl, ?hy80028⟩) hHeld ?hn80028
    case hy80028 => (intro wz hSw; (try dsimp only at hSw); go_simp; first | done | with_reducible rfl)
    try simp only [nrm, Act.put]
    refine wpAnyH_done (by kernel_rfl) ?_ _
    have HB9 : Hid (Below X.heap.size X w9) := hHeld
    clear hHeld
    go_wp2
    go_ret
    exact ⟨by rw [HE.out]; rfl, Below.then HAX.out HB9.out HAX.out.size⟩

end Go.Proofs.YthcgdhlemieboaaGreat
