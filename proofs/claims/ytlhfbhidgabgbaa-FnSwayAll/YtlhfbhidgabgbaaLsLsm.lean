/- Numbers held against each other where they are told. -/
import Derived.Test.YtlhfbhidgabgbaaLsLcx
import Derived.Test.YtlhfbhidgabgbaaLsKnw
import Derived.Test.YtlhfbhidgabgbaaLsDrs
import Derived.Deep.RegionHeld3
namespace Go.Proofs.Ytlhfbhidgabgbaa
open Go.RowKit
set_option linter.unusedSimpArgs false
set_option linter.unusedVariables false
attribute [local go_sem] World.cell?_alloc_some

set_option maxHeartbeats 4000000 in
theorem lcSameOf_true {v v' kv : Value} {zs ys : List Int} {ks : List Bool} {w : World} (h : GRep (Value.int .i64) w v zs) (h' : GRep (Value.int .i64) w v' ys) (hK : GRep Value.bool w kv ks) (hyl : ys.length = zs.length) (hkl : ks.length = zs.length) (hs : ∀ i (h1 : i < zs.length) (h2 : i < ys.length) (h3 : i < ks.length), ks[i] = true → zs[i] = ys[i]) :
    Calls Try.prog 17 #[v, v', kv] w fun e w' => e = .returned (.bool true) ∧ Below w.heap.size w w' := by
  obtain ⟨a, c, rfl, hlc, hcm, hcell⟩ := h
  obtain ⟨a', c', rfl, hlc', hcm', hcell'⟩ := h'
  obtain ⟨ka, kc, rfl, hkc, hkm, hkcell⟩ := hK
  have hlm : (zs.length : Int) ≤ 9223372036854775807 := by unfold maxLen at hcm; omega
  have HC : Hid (∀ i (hi : i < zs.length), ∃ b off b' off' b3 o3 x y kk, (a = some ⟨b, off, none⟩ ∧ w.cell? ⟨b, off + i, none⟩ = some (.int .i64 x)) ∧ (a' = some ⟨b', off', none⟩ ∧ w.cell? ⟨b', off' + i, none⟩ = some (.int .i64 y)) ∧ (ka = some ⟨b3, o3, none⟩ ∧ w.cell? ⟨b3, o3 + i, none⟩ = some (.bool kk)) ∧ (kk = true → x = y)) := (by
    intro i hi
    obtain ⟨b, off, ha, h0⟩ := hcell i hi
    obtain ⟨b', off', ha', h0'⟩ := hcell' i (by omega)
    obtain ⟨b3, o3, hb3, h3⟩ := hkcell i (by omega)
    exact ⟨b, off, b', off', b3, o3, _, _, _, ⟨ha, h0⟩, ⟨ha', h0'⟩, ⟨hb3, h3⟩, hs i hi (by omega) (by omega)⟩)
  have e1 : (ys.length : Int) = (zs.length : Int) := by omega
  have e2 : (ks.length : Int) = (zs.length : Int) := by omega
  clear hcell hcell' hkcell hs hyl hkl hlc hlc' hkc
  go_enter Try.func17, Try.ntmps17
  go_wp2_with fail
  go_loopw [7] (fun j wr => ∃ (i : Nat), i ≤ zs.length ∧ j = .int .i64 i ∧ Below w.heap.size w wr) (fun j _ => zs.length - (intOf j).toNat)
  case atStart => exact ⟨0, by omega, rfl, Below.refl _ _⟩
  case round =>
    obtain ⟨i, hi, rfl, hbr⟩ := hrel
    by_cases hlt : i < zs.length
    · obtain ⟨b, off, b', off', b3, o3, x, y, kk, ⟨rfl, k0⟩, ⟨rfl, m0⟩, ⟨rfl, q0⟩, hxy⟩ := HC.out i hlt
      have i0' : (0 : Int) ≤ (i : Int) := by omega
      have i1' : (i : Int) < (zs.length : Int) := by omega
      cases kk
      · clear hxy
        go_wp2_with fail
        refine wp_region_held (S := (fun wz => Below w.heap.size w wz)) (by kernel_rfl) ?_
        change wpAnyH _ _ _ _ _ _ _ _ (World.drew _)
        have hHeld := hbr.drew
        refine' wpAnyH_take (i := 0) (v := _) rfl (by kernel_rfl) (by kernel_rfl) (by kernel_rfl) (fun _ _ _ h => h) (Or.inl ⟨by rfl, ?hy316⟩) hHeld ?hn316
        case hy316 => (intro wz hSw; (try dsimp only at hSw); go_simp; first | done | with_reducible rfl)
        try simp only [nrm, Act.put]
        refine' wpAnyH_take (i := 1) (v := _) rfl (by kernel_rfl) (by kernel_rfl) (by kernel_rfl) (fun _ _ _ h => h) (Or.inl ⟨by rfl, ?hy317⟩) hHeld ?hn317
        case hy317 => (intro wz hSw; (try dsimp only at hSw); go_simp; first | done | with_reducible rfl)
        try simp only [nrm, Act.put]
        refine' wpAnyH_take (i := 2) (v := _) rfl (by kernel_rfl) (by kernel_rfl) (by kernel_rfl) (fun _ _ _ h => h) (Or.inl ⟨by rfl, ?hy318⟩) hHeld ?hn318
        case hy318 => (intro wz hSw; (try dsimp only at hSw); go_simp; first | done | with_reducible rfl)
        try simp only [nrm, Act.put]
        refine' wpAnyH_take (i := 3) (v := (.bool false)) rfl (by kernel_rfl) (by kernel_rfl) (by kernel_rfl) (fun _ _ _ h => h) (Or.inl ⟨by rfl, ?hy319⟩) hHeld ?hn319
        case hy319 => (intro wz hSw; have k := cell_later hSw q0; go_simp)
        try simp only [nrm, Act.put]
        refine' wpAnyH_take (i := 4) (v := _) rfl (by kernel_rfl) (by kernel_rfl) (by kernel_rfl) (fun _ _ _ h => h) (Or.inl ⟨by rfl, ?hy320⟩) hHeld ?hn320
        case hy320 => (intro wz hSw; (try dsimp only at hSw); go_simp; first | done | with_reducible rfl)
        try simp only [nrm, Act.put]
        refine' wpAnyH_take (i := 5) (v := undef) rfl (by kernel_rfl) (by kernel_rfl) (by kernel_rfl) (fun _ _ _ h => h) (Or.inr ⟨by rfl, rfl⟩) hHeld ?hn321
        try simp only [nrm, Act.put]
        refine' wpAnyH_take (i := 6) (v := undef) rfl (by kernel_rfl) (by kernel_rfl) (by kernel_rfl) (fun _ _ _ h => h) (Or.inr ⟨by rfl, rfl⟩) hHeld ?hn322
        try simp only [nrm, Act.put]
        refine' wpAnyH_take (i := 7) (v := undef) rfl (by kernel_rfl) (by kernel_rfl) (by kernel_rfl) (fun _ _ _ h => h) (Or.inr ⟨by rfl, rfl⟩) hHeld ?hn323
        try simp only [nrm, Act.put]
        refine' wpAnyH_take (i := 8) (v := undef) rfl (by kernel_rfl) (by kernel_rfl) (by kernel_rfl) (fun _ _ _ h => h) (Or.inr ⟨by rfl, rfl⟩) hHeld ?hn324
        try simp only [nrm, Act.put]
        refine' wpAnyH_take (i := 9) (v := undef) rfl (by kernel_rfl) (by kernel_rfl) (by kernel_rfl) (fun _ _ _ h => h) (Or.inr ⟨by rfl, rfl⟩) hHeld ?hn325
        try simp only [nrm, Act.put]
        refine' wpAnyH_take (i := 10) (v := undef) rfl (by kernel_rfl) (by kernel_rfl) (by kernel_rfl) (fun _ _ _ h => h) (Or.inr ⟨by rfl, rfl⟩) hHeld ?hn326
        try simp only [nrm, Act.put]
        refine' wpAnyH_take (i := 11) (v := undef) rfl (by kernel_rfl) (by kernel_rfl) (by kernel_rfl) (fun _ _ _ h => h) (Or.inr ⟨by rfl, rfl⟩) hHeld ?hn327
        try simp only [nrm, Act.put]
        refine' wpAnyH_take (i := 12) (v := undef) rfl (by kernel_rfl) (by kernel_rfl) (by kernel_rfl) (fun _ _ _ h => h) (Or.inr ⟨by rfl, rfl⟩) hHeld ?hn328
        try simp only [nrm, Act.put]
        refine' wpAnyH_take (i := 13) (v := undef) rfl (by kernel_rfl) (by kernel_rfl) (by kernel_rfl) (fun _ _ _ h => h) (Or.inr ⟨by rfl, rfl⟩) hHeld ?hn329
        try simp only [nrm, Act.put]
        refine' wpAnyH_take (i := 14) (v := _) rfl (by kernel_rfl) (by kernel_rfl) (by kernel_rfl) (fun _ _ _ h => h) (Or.inl ⟨by rfl, ?hy330⟩) hHeld ?hn330
        case hy330 => (intro wz hSw; (try dsimp only at hSw); go_simp; first | done | with_reducible rfl)
        try simp only [nrm, Act.put]
        refine wpAnyH_done (by kernel_rfl) ?_ _
        have HBq : Hid (Below w.heap.size w _) := hHeld
        clear hHeld
        go_wp2
        exact ⟨⟨i + 1, by omega, by simp, HBq.out⟩, by simp [intOf]; omega⟩
      · obtain rfl := hxy rfl
        go_wp2_with fail
        refine wp_region_held (S := (fun wz => Below w.heap.size w wz)) (by kernel_rfl) ?_
        change wpAnyH _ _ _ _ _ _ _ _ (World.drew _)
        have hHeld := hbr.drew
        refine' wpAnyH_take (i := 0) (v := _) rfl (by kernel_rfl) (by kernel_rfl) (by kernel_rfl) (fun _ _ _ h => h) (Or.inl ⟨by rfl, ?hy301⟩) hHeld ?hn301
        case hy301 => (intro wz hSw; (try dsimp only at hSw); go_simp; first | done | with_reducible rfl)
        try simp only [nrm, Act.put]
        refine' wpAnyH_take (i := 1) (v := _) rfl (by kernel_rfl) (by kernel_rfl) (by kernel_rfl) (fun _ _ _ h => h) (Or.inl ⟨by rfl, ?hy302⟩) hHeld ?hn302
        case hy302 => (intro wz hSw; (try dsimp only at hSw); go_simp; first | done | with_reducible rfl)
        try simp only [nrm, Act.put]
        refine' wpAnyH_take (i := 2) (v := _) rfl (by kernel_rfl) (by kernel_rfl) (by kernel_rfl) (fun _ _ _ h => h) (Or.inl ⟨by rfl, ?hy303⟩) hHeld ?hn303
        case hy303 => (intro wz hSw; (try dsimp only at hSw); go_simp; first | done | with_reducible rfl)
        try simp only [nrm, Act.put]
        refine' wpAnyH_take (i := 3) (v := (.bool true)) rfl (by kernel_rfl) (by kernel_rfl) (by kernel_rfl) (fun _ _ _ h => h) (Or.inl ⟨by rfl, ?hy304⟩) hHeld ?hn304
        case hy304 => (intro wz hSw; have k := cell_later hSw q0; go_simp)
        try simp only [nrm, Act.put]
        refine' wpAnyH_take (i := 4) (v := _) rfl (by kernel_rfl) (by kernel_rfl) (by kernel_rfl) (fun _ _ _ h => h) (Or.inl ⟨by rfl, ?hy305⟩) hHeld ?hn305
        case hy305 => (intro wz hSw; (try dsimp only at hSw); go_simp; first | done | with_reducible rfl)
        try simp only [nrm, Act.put]
        refine' wpAnyH_take (i := 5) (v := _) rfl (by kernel_rfl) (by kernel_rfl) (by kernel_rfl) (fun _ _ _ h => h) (Or.inl ⟨by rfl, ?hy306⟩) hHeld ?hn306
        case hy306 => (intro wz hSw; (try dsimp only at hSw); go_simp; first | done | with_reducible rfl)
        try simp only [nrm, Act.put]
        refine' wpAnyH_take (i := 6) (v := _) rfl (by kernel_rfl) (by kernel_rfl) (by kernel_rfl) (fun _ _ _ h => h) (Or.inl ⟨by rfl, ?hy307⟩) hHeld ?hn307
        case hy307 => (intro wz hSw; (try dsimp only at hSw); go_simp; first | done | with_reducible rfl)
        try simp only [nrm, Act.put]
        refine' wpAnyH_take (i := 7) (v := _) rfl (by kernel_rfl) (by kernel_rfl) (by kernel_rfl) (fun _ _ _ h => h) (Or.inl ⟨by rfl, ?hy308⟩) hHeld ?hn308
        case hy308 => (intro wz hSw; (try dsimp only at hSw); go_simp; first | done | with_reducible rfl)
        try simp only [nrm, Act.put]
        refine' wpAnyH_take (i := 8) (v := (.int .i64 x)) rfl (by kernel_rfl) (by kernel_rfl) (by kernel_rfl) (fun _ _ _ h => h) (Or.inl ⟨by rfl, ?hy309⟩) hHeld ?hn309
        case hy309 => (intro wz hSw; have k := cell_later hSw k0; go_simp)
        try simp only [nrm, Act.put]
        refine' wpAnyH_take (i := 9) (v := _) rfl (by kernel_rfl) (by kernel_rfl) (by kernel_rfl) (fun _ _ _ h => h) (Or.inl ⟨by rfl, ?hy310⟩) hHeld ?hn310
        case hy310 => (intro wz hSw; (try dsimp only at hSw); go_simp; first | done | with_reducible rfl)
        try simp only [nrm, Act.put]
        refine' wpAnyH_take (i := 10) (v := _) rfl (by kernel_rfl) (by kernel_rfl) (by kernel_rfl) (fun _ _ _ h => h) (Or.inl ⟨by rfl, ?hy311⟩) hHeld ?hn311
        case hy311 => (intro wz hSw; (try dsimp only at hSw); go_simp; first | done | with_reducible rfl)
        try simp only [nrm, Act.put]
        refine' wpAnyH_take (i := 11) (v := _) rfl (by kernel_rfl) (by kernel_rfl) (by kernel_rfl) (fun _ _ _ h => h) (Or.inl ⟨by rfl, ?hy312⟩) hHeld ?hn312
        case hy312 => (intro wz hSw; (try dsimp only at hSw); go_simp; first | done | with_reducible rfl)
        try simp only [nrm, Act.put]
        refine' wpAnyH_take (i := 12) (v := (.int .i64 x)) rfl (by kernel_rfl) (by kernel_rfl) (by kernel_rfl) (fun _ _ _ h => h) (Or.inl ⟨by rfl, ?hy313⟩) hHeld ?hn313
        case hy313 => (intro wz hSw; have k := cell_later hSw m0; go_simp)
        try simp only [nrm, Act.put]
        refine' wpAnyH_take (i := 13) (v := (.bool false)) rfl (by kernel_rfl) (by kernel_rfl) (by kernel_rfl) (fun _ _ _ h => h) (Or.inl ⟨by rfl, ?hy314⟩) hHeld ?hn314
        case hy314 => (intro wz hSw; go_simp; first | done | simp)
        try simp only [nrm, Act.put]
        refine' wpAnyH_take (i := 14) (v := _) rfl (by kernel_rfl) (by kernel_rfl) (by kernel_rfl) (fun _ _ _ h => h) (Or.inl ⟨by rfl, ?hy315⟩) hHeld ?hn315
        case hy315 => (intro wz hSw; (try dsimp only at hSw); go_simp; first | done | with_reducible rfl)
        try simp only [nrm, Act.put]
        refine wpAnyH_done (by kernel_rfl) ?_ _
        have HBq : Hid (Below w.heap.size w _) := hHeld
        clear hHeld
        go_wp2
        exact ⟨⟨i + 1, by omega, by simp, HBq.out⟩, by simp [intOf]; omega⟩
    · have : i = zs.length := by omega
      subst this
      have HB : Hid (Below w.heap.size w wr) := hbr
      clear hbr
      go_wp2
      go_ret
      exact ⟨rfl, HB.out⟩

end Go.Proofs.Ytlhfbhidgabgbaa
