/- Rows compared: of numbers, of pairs, and what came of programs. -/
import Derived.Test.YthcgdhlemieboaaGreatTkDox
namespace Go.Proofs.YthcgdhlemieboaaGreat
open Go.RowKit
set_option linter.unusedSimpArgs false
set_option linter.unusedVariables false
attribute [local go_sem] World.cell?_alloc_some

theorem LI1 {w wz : World} {a1 a2 : Addr} {v1 v2 : Value} (h : wz.cell? a1 = some v1 ∧ wz.cell? a2 = some v2 ∧ Below w.heap.size w wz) : wz.drew.cell? a1 = some v1 ∧ wz.drew.cell? a2 = some v2 ∧ Below w.heap.size w wz.drew := ⟨h.1, h.2.1, h.2.2.drew⟩
theorem rows_eq {α : Type} {xs ys : List α} (hl : xs.length = ys.length) (h : ∀ q (h1 : q < xs.length) (h2 : q < ys.length), xs[q] = ys[q]) : xs = ys := List.ext_getElem hl h

set_option maxHeartbeats 2000000 in
theorem lcInts_any {v v' : Value} {zs ys : List Int} {w : World} (h : GRep (Value.int .i64) w v zs) (h' : GRep (Value.int .i64) w v' ys) :
    Calls Tryz.prog 8 #[v, v'] w fun e w' => e = .returned (.bool (decide (zs = ys))) ∧ Below w.heap.size w w' := by
  obtain ⟨a, c, rfl, hlc, hcm, hcell⟩ := h
  obtain ⟨a', c', rfl, hlc', hcm', hcell'⟩ := h'
  have hlm : (zs.length : Int) ≤ 9223372036854775807 := by unfold maxLen at hcm; omega
  have hlm' : (ys.length : Int) ≤ 9223372036854775807 := by unfold maxLen at hcm'; omega
  have HC : Hid (∀ i (hi : i < zs.length) (hi' : i < ys.length), ∃ b off b' off' x y, zs[i] = x ∧ ys[i] = y ∧ (a = some ⟨b, off, none⟩ ∧ w.cell? ⟨b, off + i, none⟩ = some (.int .i64 x)) ∧ (a' = some ⟨b', off', none⟩ ∧ w.cell? ⟨b', off' + i, none⟩ = some (.int .i64 y))) := (by
    intro i hi hi'
    obtain ⟨b, off, ha, h0⟩ := hcell i hi
    obtain ⟨b', off', ha', h0'⟩ := hcell' i hi'
    exact ⟨b, off, b', off', _, _, rfl, rfl, ⟨ha, h0⟩, ha', h0'⟩)
  clear hcell hcell'
  obtain ⟨r, hr⟩ : ∃ r, decide (zs = ys) = r := ⟨_, rfl⟩
  rw [hr]
  by_cases hll : ¬ zs.length = ys.length
  · obtain rfl : false = r := by rw [← hr]; symm; simp; rintro rfl; exact hll rfl
    have hz : ¬ (zs.length : Int) = (ys.length : Int) := by omega
    clear hr HC
    go_enter Tryz.func8, Tryz.ntmps8
    go_wp2
    go_ret
    exact ⟨rfl, Below.refl _ _⟩
  have HR : Hid _ := hr
  have hll' : zs.length = ys.length := by omega
  have HL : Hid (zs.length = ys.length) := hll'
  clear hr hll hll'
  have hz : (zs.length : Int) = (ys.length : Int) := by have := HL.out; omega
  go_enter Tryz.func8, Tryz.ntmps8
  go_wp2
  have HZ : Hid _ := hz
  clear hz
  go_loopw [5] (fun j wr => ∃ (i : Nat), i ≤ zs.length ∧ j = .int .i64 i ∧ Below w.heap.size w wr ∧ ∀ q (h1 : q < zs.length) (h2 : q < ys.length), q < i → zs[q] = ys[q]) (fun j _ => zs.length - (intOf j).toNat)
  case atStart => exact ⟨0, by omega, rfl, Below.refl _ _, fun q _ _ h => by omega⟩
  case round =>
    obtain ⟨i, hi, rfl, hbr, hall⟩ := hrel
    have HA : Hid _ := hall
    clear hall
    by_cases hlt : i < zs.length
    · have hlt' : i < ys.length := by have := HL.out; omega
      obtain ⟨b, off, b', off', x, y, ex, ey, ⟨rfl, k0⟩, rfl, m0⟩ := HC.out i hlt (by omega)
      have EX : Hid _ := ex
      have EY : Hid _ := ey
      clear ex ey
      replace k0 := cell_later hbr k0
      replace m0 := cell_later hbr m0
      have i0' : (0 : Int) ≤ (i : Int) := by omega
      have i1' : (i : Int) < (zs.length : Int) := by omega
      have i2' : (i : Int) < (ys.length : Int) := by omega
      by_cases hxy : x = y
      · subst hxy
        go_wp2_with fail
        refine wp_region_held (S := (fun wz => wz.cell? ⟨b, off + i, none⟩ = some (.int .i64 x) ∧ wz.cell? ⟨b', off' + i, none⟩ = some (.int .i64 x) ∧ Below w.heap.size w wz)) (by kernel_rfl) ?_
        change wpAnyH _ _ _ _ _ _ _ _ (World.drew _)
        have hHeld := LI1 ⟨k0, m0, hbr⟩
        refine' wpAnyH_take (i := 0) (v := _) rfl (by kernel_rfl) (by kernel_rfl) (by kernel_rfl) (fun _ _ _ h => h) (Or.inl ⟨by rfl, ?hy101⟩) hHeld ?hn101
        case hy101 => (intro wz hSw; (try dsimp only at hSw); go_simp; first | done | with_reducible rfl)
        try simp only [nrm, Act.put]
        refine' wpAnyH_take (i := 1) (v := _) rfl (by kernel_rfl) (by kernel_rfl) (by kernel_rfl) (fun _ _ _ h => h) (Or.inl ⟨by rfl, ?hy102⟩) hHeld ?hn102
        case hy102 => (intro wz hSw; (try dsimp only at hSw); go_simp; first | done | with_reducible rfl)
        try simp only [nrm, Act.put]
        refine' wpAnyH_take (i := 2) (v := _) rfl (by kernel_rfl) (by kernel_rfl) (by kernel_rfl) (fun _ _ _ h => h) (Or.inl ⟨by rfl, ?hy103⟩) hHeld ?hn103
        case hy103 => (intro wz hSw; (try dsimp only at hSw); go_simp; first | done | with_reducible rfl)
        try simp only [nrm, Act.put]
        refine' wpAnyH_take (i := 3) (v := (.int .i64 x)) rfl (by kernel_rfl) (by kernel_rfl) (by kernel_rfl) (fun _ _ _ h => h) (Or.inl ⟨by rfl, ?hy104⟩) hHeld ?hn104
        case hy104 => (intro wz hSw; obtain ⟨k0, m0, _⟩ := hSw; go_simp)
        try simp only [nrm, Act.put]
        refine' wpAnyH_take (i := 4) (v := _) rfl (by kernel_rfl) (by kernel_rfl) (by kernel_rfl) (fun _ _ _ h => h) (Or.inl ⟨by rfl, ?hy105⟩) hHeld ?hn105
        case hy105 => (intro wz hSw; (try dsimp only at hSw); go_simp; first | done | with_reducible rfl)
        try simp only [nrm, Act.put]
        refine' wpAnyH_take (i := 5) (v := _) rfl (by kernel_rfl) (by kernel_rfl) (by kernel_rfl) (fun _ _ _ h => h) (Or.inl ⟨by rfl, ?hy106⟩) hHeld ?hn106
        case hy106 => (intro wz hSw; (try dsimp only at hSw); go_simp; first | done | with_reducible rfl)
        try simp only [nrm, Act.put]
        refine' wpAnyH_take (i := 6) (v := _) rfl (by kernel_rfl) (by kernel_rfl) (by kernel_rfl) (fun _ _ _ h => h) (Or.inl ⟨by rfl, ?hy107⟩) hHeld ?hn107
        case hy107 => (intro wz hSw; (try dsimp only at hSw); go_simp; first | done | with_reducible rfl)
        try simp only [nrm, Act.put]
        refine' wpAnyH_take (i := 7) (v := (.int .i64 x)) rfl (by kernel_rfl) (by kernel_rfl) (by kernel_rfl) (fun _ _ _ h => h) (Or.inl ⟨by rfl, ?hy108⟩) hHeld ?hn108
        case hy108 => (intro wz hSw; obtain ⟨k0, m0, _⟩ := hSw; go_simp)
        try simp only [nrm, Act.put]
        refine' wpAnyH_take (i := 8) (v := (.bool false)) rfl (by kernel_rfl) (by kernel_rfl) (by kernel_rfl) (fun _ _ _ h => h) (Or.inl ⟨by rfl, ?hy109⟩) hHeld ?hn109
        case hy109 => (intro wz hSw; go_simp; first | done | simp)
        try simp only [nrm, Act.put]
        refine wpAnyH_done (by kernel_rfl) ?_ _
        have hB9 := hHeld.2.2
        clear hHeld
        have HB9 : Hid (Below w.heap.size w _) := hB9
        clear hB9
        go_wp2
        exact ⟨⟨i + 1, by omega, by simp, HB9.out, fun q h1 h2 hq => (by
          by_cases e : q = i
          · subst e; exact EX.out.trans EY.out.symm
          · exact HA.out q h1 h2 (by omega))⟩, by simp [intOf]; omega⟩
      · obtain rfl : false = r := by
          rw [← HR.out]; symm; simp; rintro rfl
          exact hxy (EX.out.symm.trans EY.out)
        have hne : ¬ x = y := hxy
        clear hxy
        go_wp2_with fail
        refine wp_region_held (S := (fun wz => wz.cell? ⟨b, off + i, none⟩ = some (.int .i64 x) ∧ wz.cell? ⟨b', off' + i, none⟩ = some (.int .i64 y) ∧ Below w.heap.size w wz)) (by kernel_rfl) ?_
        change wpAnyH _ _ _ _ _ _ _ _ (World.drew _)
        have hHeld := LI1 ⟨k0, m0, hbr⟩
        refine' wpAnyH_take (i := 0) (v := _) rfl (by kernel_rfl) (by kernel_rfl) (by kernel_rfl) (fun _ _ _ h => h) (Or.inl ⟨by rfl, ?hy110⟩) hHeld ?hn110
        case hy110 => (intro wz hSw; (try dsimp only at hSw); go_simp; first | done | with_reducible rfl)
        try simp only [nrm, Act.put]
        refine' wpAnyH_take (i := 1) (v := _) rfl (by kernel_rfl) (by kernel_rfl) (by kernel_rfl) (fun _ _ _ h => h) (Or.inl ⟨by rfl, ?hy111⟩) hHeld ?hn111
        case hy111 => (intro wz hSw; (try dsimp only at hSw); go_simp; first | done | with_reducible rfl)
        try simp only [nrm, Act.put]
        refine' wpAnyH_take (i := 2) (v := _) rfl (by kernel_rfl) (by kernel_rfl) (by kernel_rfl) (fun _ _ _ h => h) (Or.inl ⟨by rfl, ?hy112⟩) hHeld ?hn112
        case hy112 => (intro wz hSw; (try dsimp only at hSw); go_simp; first | done | with_reducible rfl)
        try simp only [nrm, Act.put]
        refine' wpAnyH_take (i := 3) (v := (.int .i64 x)) rfl (by kernel_rfl) (by kernel_rfl) (by kernel_rfl) (fun _ _ _ h => h) (Or.inl ⟨by rfl, ?hy113⟩) hHeld ?hn113
        case hy113 => (intro wz hSw; obtain ⟨k0, m0, _⟩ := hSw; go_simp)
        try simp only [nrm, Act.put]
        refine' wpAnyH_take (i := 4) (v := _) rfl (by kernel_rfl) (by kernel_rfl) (by kernel_rfl) (fun _ _ _ h => h) (Or.inl ⟨by rfl, ?hy114⟩) hHeld ?hn114
        case hy114 => (intro wz hSw; (try dsimp only at hSw); go_simp; first | done | with_reducible rfl)
        try simp only [nrm, Act.put]
        refine' wpAnyH_take (i := 5) (v := _) rfl (by kernel_rfl) (by kernel_rfl) (by kernel_rfl) (fun _ _ _ h => h) (Or.inl ⟨by rfl, ?hy115⟩) hHeld ?hn115
        case hy115 => (intro wz hSw; (try dsimp only at hSw); go_simp; first | done | with_reducible rfl)
        try simp only [nrm, Act.put]
        refine' wpAnyH_take (i := 6) (v := _) rfl (by kernel_rfl) (by kernel_rfl) (by kernel_rfl) (fun _ _ _ h => h) (Or.inl ⟨by rfl, ?hy116⟩) hHeld ?hn116
        case hy116 => (intro wz hSw; (try dsimp only at hSw); go_simp; first | done | with_reducible rfl)
        try simp only [nrm, Act.put]
        refine' wpAnyH_take (i := 7) (v := (.int .i64 y)) rfl (by kernel_rfl) (by kernel_rfl) (by kernel_rfl) (fun _ _ _ h => h) (Or.inl ⟨by rfl, ?hy117⟩) hHeld ?hn117
        case hy117 => (intro wz hSw; obtain ⟨k0, m0, _⟩ := hSw; go_simp)
        try simp only [nrm, Act.put]
        refine' wpAnyH_take (i := 8) (v := (.bool true)) rfl (by kernel_rfl) (by kernel_rfl) (by kernel_rfl) (fun _ _ _ h => h) (Or.inl ⟨by rfl, ?hy118⟩) hHeld ?hn118
        case hy118 => (intro wz hSw; go_simp; first | done | simp [hne])
        try simp only [nrm, Act.put]
        refine wpAnyH_done (by kernel_rfl) ?_ _
        have hB9 := hHeld.2.2
        clear hHeld
        have HB9 : Hid (Below w.heap.size w _) := hB9
        clear hB9
        go_wp2
        go_ret
        exact ⟨rfl, HB9.out⟩
    · have : i = zs.length := by omega
      subst this
      obtain rfl : true = r := by
        rw [← HR.out]; symm; simp
        exact rows_eq HL.out (fun q h1 h2 => HA.out q h1 h2 h1)
      have HB : Hid (Below w.heap.size w wr) := hbr
      clear hbr
      go_wp2
      go_ret
      exact ⟨rfl, HB.out⟩

end Go.Proofs.YthcgdhlemieboaaGreat

namespace Go.Proofs.YthcgdhlemieboaaGreat
open Go.RowKit
set_option linter.unusedSimpArgs false
set_option linter.unusedVariables false

def putW (n : List Int) (a : Int × Int) : List Int := n.set a.1.toNat a.2
theorem progB_parts {ls : List (Int × Int)} {d : Nat} {T : Tr d} (h : progB ls d T = true) : ls.length ≤ 4 ∧ labsB ls = true ∧ stB ls.length d 3 T = true ∧ cnt d T ≤ 8 := by
  unfold progB at h
  simpa using h

end Go.Proofs.YthcgdhlemieboaaGreat
