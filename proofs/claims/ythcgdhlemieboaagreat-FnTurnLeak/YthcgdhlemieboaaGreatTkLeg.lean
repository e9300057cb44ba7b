/- The program's rows of bits, and what compares rows. -/
import Derived.Test.YthcgdhlemieboaaGreatTkLea
import Derived.Deep.RegionHeld3
import Derived.Deep.DrawnRows
namespace Go.Proofs.YthcgdhlemieboaaGreat
open Go.RowKit
set_option linter.unusedSimpArgs false
set_option linter.unusedVariables false
attribute [local go_sem] World.cell?_alloc_some

theorem bit_of {n v : Nat} (hn : n < 16) (hv : v < 4) : bits .and .i64 ((n : Int) / 2 ^ v) 1 = ((n : Int) / 2 ^ v).tmod 2 := by
  have h : ((List.range 16).all fun n => (List.range 4).all fun v => decide (bits .and .i64 ((n : Int) / 2 ^ v) 1 = ((n : Int) / 2 ^ v).tmod 2)) = true := by decide +kernel
  have := List.all_eq_true.1 (List.all_eq_true.1 h n (List.mem_range.2 hn)) v (List.mem_range.2 hv)
  simpa using this
def bitsTo (n vars i : Nat) : List Int := (List.range vars).map fun q : Nat => if q < i then ((n : Int) / 2 ^ q).tmod 2 else 0
theorem bitsTo_len (n vars i : Nat) : (bitsTo n vars i).length = vars := by simp [bitsTo]
theorem bitsTo_zero (n vars : Nat) : bitsTo n vars 0 = List.replicate vars 0 := by
  refine List.ext_getElem (by simp [bitsTo]) fun q h1 h2 => ?_
  simp [bitsTo]
theorem bitsTo_all (n vars : Nat) : bitsTo n vars vars = bitsL n vars := by
  refine List.ext_getElem (by simp [bitsTo, bitsL]) fun q h1 h2 => ?_
  have : q < vars := by simpa [bitsTo] using h1
  simp [bitsTo, bitsL, this]
theorem bitsTo_succ (n vars i : Nat) (hi : i < vars) : bitsTo n vars (i + 1) = (bitsTo n vars i).set i (((n : Int) / 2 ^ i).tmod 2) := by
  refine List.ext_getElem (by simp [bitsTo]) fun q h1 h2 => ?_
  rw [List.getElem_set]
  by_cases e : i = q
  · subst e; simp [bitsTo]
  · rw [if_neg e]
    by_cases h : q < i
    · simp [bitsTo, h, show q < i + 1 by omega]
    · simp [bitsTo, h, show ¬ q < i + 1 by omega]

set_option maxHeartbeats 4000000 in
theorem bitRow_any (vars n : Nat) (hv : vars ≤ 4) (hn : n < 16) (w : World) :
    Calls Tryz.prog 69 #[.int .i64 (vars : Int), .int .i64 (n : Int)] w fun e w' => e = .returned (.slice (some ⟨w.heap.size, 0, none⟩) vars vars) ∧ Below w.heap.size w w' ∧ w'.ownsRow w.heap.size 3 1 (.slice (some ⟨w.heap.size, 0, none⟩) vars vars) vars ((bitsL n vars).map (Value.int .i64)) := by
  obtain ⟨i0, hi0, hz0, hz1, hz2⟩ := info_parts infoInt
  go_enter Tryz.func69, Tryz.ntmps69
  go_wp2_with (at_make; refine wpList_make_full _ rfl _ _ 29 rfl w.heap.size 3 i0 _ 1 Tryz.underlying29 hi0 hz0 hz1 _ _ _ _ vars rfl rfl rfl rfl ?b2 ?b3 ?b4 ?_)
  case b2 => rw [hz2]; omega
  case b3 => unfold maxLen; omega
  case b4 => exact Nat.le_refl _
  intro w0 own0 grow0
  have B0 : Below w.heap.size w w0 := (Below.refl _ _).grown grow0 (Nat.le_refl _) (fun k hk => by cases hk)
  have O0 : w0.ownsRow w.heap.size 3 1 (.slice (some ⟨w.heap.size, 0, none⟩) vars vars) vars ((bitsTo n vars 0).map (Value.int .i64)) := by
    rw [bitsTo_zero]
    have e : (madeCells #[Value.int .i64 0] vars).toList = (List.replicate vars (0 : Int)).map (Value.int .i64) := by
      refine List.ext_getElem? fun q => ?_
      by_cases hq : q < vars
      · simp [madeCells, hq, Nat.mod_one]
      · simp [madeCells, hq]
    rw [← e]; exact own0
  have H0 : Hid _ := And.intro B0 O0
  clear own0 grow0 B0 O0
  go_wp2_with fail
  go_loopw [11] (fun j wr => ∃ (i : Nat), i ≤ vars ∧ j = .int .i64 i ∧ Below w.heap.size w wr ∧ wr.ownsRow w.heap.size 3 1 (.slice (some ⟨w.heap.size, 0, none⟩) vars vars) vars ((bitsTo n vars i).map (Value.int .i64))) (fun j _ => vars - (intOf j).toNat)
  case atStart => exact ⟨0, by omega, rfl, H0.out.1, H0.out.2⟩
  case round =>
    obtain ⟨i, hi, rfl, hbr, hor⟩ := hrel
    have HBR : Hid (Below w.heap.size w wr) := hbr
    have HOR : Hid (wr.ownsRow w.heap.size 3 1 (.slice (some ⟨w.heap.size, 0, none⟩) vars vars) vars ((bitsTo n vars i).map (Value.int .i64))) := hor
    clear hbr hor
    by_cases hlt : i < vars
    · have i1' : (i : Int) < (vars : Int) := by omega
      have hbit := bit_of (n := n) (v := i) hn (by omega)
      have c0 : wr.cell? ⟨w.heap.size, i, none⟩ = some (.int .i64 ((bitsTo n vars i)[i]'(by rw [bitsTo_len]; exact hlt))) := by
        have := HOR.out.cells rfl i _ (by rw [List.getElem?_map, List.getElem?_eq_getElem (by rw [bitsTo_len]; exact hlt)]; rfl)
        rwa [Addr.add_mid, Nat.zero_add] at this
      have f0 := World.ownsRow.frozenAt HOR.out i
      generalize (bitsTo n vars i)[i]'(by rw [bitsTo_len]; exact hlt) = x0 at c0
      have HS : Hid _ := bitsTo_succ n vars i hlt
      go_wp2
      refine ⟨⟨i + 1, by omega, by simp, HBR.out.setCell (Nat.le_refl _) _, ?_⟩, by simp [intOf]; omega⟩
      rw [HS.out, List.map_set]
      exact (World.ownsRow.stored HOR.out i (.int .i64 (((n : Int) / 2 ^ i).tmod 2))).1
    · have hie : i = vars := by omega
      subst hie
      go_wp2
      go_ret
      exact ⟨rfl, HBR.out, by have := HOR.out; rwa [bitsTo_all] at this⟩

set_option maxHeartbeats 4000000 in
theorem stays_any {v v' kv : Value} {xs ys : List Int} {ks : List Bool} {w : World} {bx : Addr} (hb : w.cell? bx = some kv) (h : GRep (Value.int .i64) w v xs) (h' : GRep (Value.int .i64) w v' ys) (hK : GRep Value.bool w kv ks) (hx : ks.length ≤ xs.length) (hy : ks.length ≤ ys.length) :
    Calls Tryz.prog 46 #[v, v', .pointer (some bx)] w fun e w' => e = .returned (.bool (sameB ks xs ys)) ∧ Below w.heap.size w w' := by
  obtain ⟨a, c, rfl, hlc, hcm, hcell⟩ := h
  obtain ⟨a', c', rfl, hlc', hcm', hcell'⟩ := h'
  obtain ⟨ka, kc, rfl, hkc, hkm, hkcell⟩ := hK
  have hkm' : (ks.length : Int) ≤ 9223372036854775807 := by unfold maxLen at hkm; omega
  have HC : Hid (∀ i (hi : i < ks.length), ∃ b off b' off' b3 o3, (a = some ⟨b, off, none⟩ ∧ w.cell? ⟨b, off + i, none⟩ = some (.int .i64 (xs.getD i 0))) ∧ (a' = some ⟨b', off', none⟩ ∧ w.cell? ⟨b', off' + i, none⟩ = some (.int .i64 (ys.getD i 0))) ∧ (ka = some ⟨b3, o3, none⟩ ∧ w.cell? ⟨b3, o3 + i, none⟩ = some (.bool (ks.getD i false)))) := (show ∀ i (hi : i < ks.length), _ from fun i hi => by
    obtain ⟨b, off, ha, h0⟩ := hcell i (by omega)
    obtain ⟨b', off', ha', h0'⟩ := hcell' i (by omega)
    obtain ⟨b3, o3, hb3, h3⟩ := hkcell i (by omega)
    refine ⟨b, off, b', off', b3, o3, ⟨ha, ?_⟩, ⟨ha', ?_⟩, ⟨hb3, ?_⟩⟩
    · rw [h0, List.getD_eq_getElem?_getD, List.getElem?_eq_getElem (by omega), Option.getD_some]
    · rw [h0', List.getD_eq_getElem?_getD, List.getElem?_eq_getElem (by omega), Option.getD_some]
    · rw [h3, List.getD_eq_getElem?_getD, List.getElem?_eq_getElem (by omega), Option.getD_some])
  clear hcell hcell' hkcell
  go_enter Tryz.func46, Tryz.ntmps46
  go_wp2_with fail
  clear hb
  go_loopw [10] (fun j wr => ∃ (i : Nat), i ≤ ks.length ∧ j = .int .i64 i ∧ Below w.heap.size w wr ∧ Hid (∀ q, q < i → ks.getD q false = true → xs.getD q 0 = ys.getD q 0)) (fun j _ => ks.length - (intOf j).toNat)
  case atStart => exact ⟨0, by omega, rfl, Below.refl _ _, (show ∀ q, q < 0 → _ from fun q hq => by omega)⟩
  case round =>
    obtain ⟨i, hi, rfl, hbr, HQ⟩ := hrel
    have HBR : Hid (Below w.heap.size w wr) := hbr
    clear hbr
    by_cases hlt : i < ks.length
    · obtain ⟨b, off, b', off', b3, o3, ⟨rfl, k0⟩, ⟨rfl, m0⟩, rfl, q0⟩ := HC.out i hlt
      have i1' : (i : Int) < (ks.length : Int) := by omega
      have i2' : (i : Int) < (xs.length : Int) := by omega
      have i3' : (i : Int) < (ys.length : Int) := by omega
      obtain ⟨kk, hkk⟩ : ∃ kk, ks.getD i false = kk := ⟨_, rfl⟩
      obtain ⟨x, hxx⟩ : ∃ x, xs.getD i 0 = x := ⟨_, rfl⟩
      obtain ⟨y, hyy⟩ : ∃ y, ys.getD i 0 = y := ⟨_, rfl⟩
      rw [hkk] at q0
      rw [hxx] at k0
      rw [hyy] at m0
      have HKK : Hid _ := hkk
      have HXX : Hid _ := hxx
      have HYY : Hid _ := hyy
      replace q0 := cell_later HBR.out q0
      clear hkk hxx hyy
      cases kk
      · go_wp2_with fail
        refine wp_region_held (S := (fun wz => Below w.heap.size w wz)) (by kernel_rfl) ?_
        change wpAnyH _ _ _ _ _ _ _ _ (World.drew _)
        have hHeld := HBR.out.drew
        refine' wpAnyH_take (i := 0) (v := (.bool false)) rfl (by kernel_rfl) (by kernel_rfl) (by kernel_rfl) (fun _ _ _ h => h) (Or.inl ⟨by rfl, ?hy15001⟩) hHeld ?hn15001
        case hy15001 => (intro wz hSw; go_simp; first | done | (simp; done))
        try simp only [nrm, Act.put]
        refine' wpAnyH_take (i := 1) (v := (.bool false)) rfl (by kernel_rfl) (by kernel_rfl) (by kernel_rfl) (fun _ _ _ h => h) (Or.inl ⟨by rfl, ?hy15002⟩) hHeld ?hn15002
        case hy15002 => (intro wz hSw; go_simp; first | done | (simp; done))
        try simp only [nrm, Act.put]
        refine' wpAnyH_take (i := 2) (v := undef) rfl (by kernel_rfl) (by kernel_rfl) (by kernel_rfl) (fun _ _ _ h => h) (Or.inr ⟨by rfl, rfl⟩) hHeld ?hn15003
        try simp only [nrm, Act.put]
        refine' wpAnyH_take (i := 3) (v := undef) rfl (by kernel_rfl) (by kernel_rfl) (by kernel_rfl) (fun _ _ _ h => h) (Or.inr ⟨by rfl, rfl⟩) hHeld ?hn15004
        try simp only [nrm, Act.put]
        refine' wpAnyH_take (i := 4) (v := undef) rfl (by kernel_rfl) (by kernel_rfl) (by kernel_rfl) (fun _ _ _ h => h) (Or.inr ⟨by rfl, rfl⟩) hHeld ?hn15005
        try simp only [nrm, Act.put]
        refine' wpAnyH_take (i := 5) (v := undef) rfl (by kernel_rfl) (by kernel_rfl) (by kernel_rfl) (fun _ _ _ h => h) (Or.inr ⟨by rfl, rfl⟩) hHeld ?hn15006
        try simp only [nrm, Act.put]
        refine' wpAnyH_take (i := 6) (v := undef) rfl (by kernel_rfl) (by kernel_rfl) (by kernel_rfl) (fun _ _ _ h => h) (Or.inr ⟨by rfl, rfl⟩) hHeld ?hn15007
        try simp only [nrm, Act.put]
        refine' wpAnyH_take (i := 7) (v := undef) rfl (by kernel_rfl) (by kernel_rfl) (by kernel_rfl) (fun _ _ _ h => h) (Or.inr ⟨by rfl, rfl⟩) hHeld ?hn15008
        try simp only [nrm, Act.put]
        refine' wpAnyH_take (i := 8) (v := undef) rfl (by kernel_rfl) (by kernel_rfl) (by kernel_rfl) (fun _ _ _ h => h) (Or.inr ⟨by rfl, rfl⟩) hHeld ?hn15009
        try simp only [nrm, Act.put]
        refine' wpAnyH_take (i := 9) (v := undef) rfl (by kernel_rfl) (by kernel_rfl) (by kernel_rfl) (fun _ _ _ h => h) (Or.inr ⟨by rfl, rfl⟩) hHeld ?hn15010
        try simp only [nrm, Act.put]
        refine' wpAnyH_take (i := 10) (v := undef) rfl (by kernel_rfl) (by kernel_rfl) (by kernel_rfl) (fun _ _ _ h => h) (Or.inr ⟨by rfl, rfl⟩) hHeld ?hn15011
        try simp only [nrm, Act.put]
        refine' wpAnyH_take (i := 11) (v := _) rfl (by kernel_rfl) (by kernel_rfl) (by kernel_rfl) (fun _ _ _ h => h) (Or.inl ⟨by rfl, ?hy15012⟩) hHeld ?hn15012
        case hy15012 => (intro wz hSw; (try dsimp only at hSw); go_simp; first | done | with_reducible rfl)
        try simp only [nrm, Act.put]
        refine wpAnyH_done (by kernel_rfl) ?_ _
        have BD : Hid (Below w.heap.size w (World.drew wr)) := HBR.out.drew
        clear hHeld k0 m0 q0
        go_wp2
        exact ⟨⟨i + 1, by omega, by simp, BD.out, (show ∀ q, q < i + 1 → _ from fun q hq hk => by
          by_cases e : q = i
          · subst e; rw [HKK.out] at hk; cases hk
          · exact HQ.out q (by omega) hk)⟩, by simp [intOf]; omega⟩
      · by_cases hxy : x = y
        · subst hxy
          go_wp2_with fail
          refine wp_region_held (S := (fun wz => Below w.heap.size w wz)) (by kernel_rfl) ?_
          change wpAnyH _ _ _ _ _ _ _ _ (World.drew _)
          have hHeld := HBR.out.drew
          refine' wpAnyH_take (i := 0) (v := (.bool true)) rfl (by kernel_rfl) (by kernel_rfl) (by kernel_rfl) (fun _ _ _ h => h) (Or.inl ⟨by rfl, ?hy15013⟩) hHeld ?hn15013
          case hy15013 => (intro wz hSw; go_simp; first | done | (simp; done))
          try simp only [nrm, Act.put]
          refine' wpAnyH_take (i := 1) (v := (.bool true)) rfl (by kernel_rfl) (by kernel_rfl) (by kernel_rfl) (fun _ _ _ h => h) (Or.inl ⟨by rfl, ?hy15014⟩) hHeld ?hn15014
          case hy15014 => (intro wz hSw; go_simp; first | done | (simp; done))
          try simp only [nrm, Act.put]
          refine' wpAnyH_take (i := 2) (v := _) rfl (by kernel_rfl) (by kernel_rfl) (by kernel_rfl) (fun _ _ _ h => h) (Or.inl ⟨by rfl, ?hy15015⟩) hHeld ?hn15015
          case hy15015 => (intro wz hSw; (try dsimp only at hSw); go_simp; first | done | with_reducible rfl)
          try simp only [nrm, Act.put]
          refine' wpAnyH_take (i := 3) (v := _) rfl (by kernel_rfl) (by kernel_rfl) (by kernel_rfl) (fun _ _ _ h => h) (Or.inl ⟨by rfl, ?hy15016⟩) hHeld ?hn15016
          case hy15016 => (intro wz hSw; (try dsimp only at hSw); go_simp; first | done | with_reducible rfl)
          try simp only [nrm, Act.put]
          refine' wpAnyH_take (i := 4) (v := _) rfl (by kernel_rfl) (by kernel_rfl) (by kernel_rfl) (fun _ _ _ h => h) (Or.inl ⟨by rfl, ?hy15017⟩) hHeld ?hn15017
          case hy15017 => (intro wz hSw; (try dsimp only at hSw); go_simp; first | done | with_reducible rfl)
          try simp only [nrm, Act.put]
          refine' wpAnyH_take (i := 5) (v := (.int .i64 x)) rfl (by kernel_rfl) (by kernel_rfl) (by kernel_rfl) (fun _ _ _ h => h) (Or.inl ⟨by rfl, ?hy15018⟩) hHeld ?hn15018
          case hy15018 => (intro wz hSw; have k := cell_later hSw k0; go_simp)
          try simp only [nrm, Act.put]
          refine' wpAnyH_take (i := 6) (v := _) rfl (by kernel_rfl) (by kernel_rfl) (by kernel_rfl) (fun _ _ _ h => h) (Or.inl ⟨by rfl, ?hy15019⟩) hHeld ?hn15019
          case hy15019 => (intro wz hSw; (try dsimp only at hSw); go_simp; first | done | with_reducible rfl)
          try simp only [nrm, Act.put]
          refine' wpAnyH_take (i := 7) (v := _) rfl (by kernel_rfl) (by kernel_rfl) (by kernel_rfl) (fun _ _ _ h => h) (Or.inl ⟨by rfl, ?hy15020⟩) hHeld ?hn15020
          case hy15020 => (intro wz hSw; (try dsimp only at hSw); go_simp; first | done | with_reducible rfl)
          try simp only [nrm, Act.put]
          refine' wpAnyH_take (i := 8) (v := _) rfl (by kernel_rfl) (by kernel_rfl) (by kernel_rfl) (fun _ _ _ h => h) (Or.inl ⟨by rfl, ?hy15021⟩) hHeld ?hn15021
          case hy15021 => (intro wz hSw; (try dsimp only at hSw); go_simp; first | done | with_reducible rfl)
          try simp only [nrm, Act.put]
          refine' wpAnyH_take (i := 9) (v := (.int .i64 x)) rfl (by kernel_rfl) (by kernel_rfl) (by kernel_rfl) (fun _ _ _ h => h) (Or.inl ⟨by rfl, ?hy15022⟩) hHeld ?hn15022
          case hy15022 => (intro wz hSw; have k := cell_later hSw m0; go_simp)
          try simp only [nrm, Act.put]
          refine' wpAnyH_take (i := 10) (v := (.bool false)) rfl (by kernel_rfl) (by kernel_rfl) (by kernel_rfl) (fun _ _ _ h => h) (Or.inl ⟨by rfl, ?hy15023⟩) hHeld ?hn15023
          case hy15023 => (intro wz hSw; go_simp; first | done | (simp; done))
          try simp only [nrm, Act.put]
          refine' wpAnyH_take (i := 11) (v := _) rfl (by kernel_rfl) (by kernel_rfl) (by kernel_rfl) (fun _ _ _ h => h) (Or.inl ⟨by rfl, ?hy15024⟩) hHeld ?hn15024
          case hy15024 => (intro wz hSw; (try dsimp only at hSw); go_simp; first | done | with_reducible rfl)
          try simp only [nrm, Act.put]
          refine wpAnyH_done (by kernel_rfl) ?_ _
          have BD : Hid (Below w.heap.size w (World.drew wr)) := HBR.out.drew
          clear hHeld k0 m0 q0
          go_wp2
          exact ⟨⟨i + 1, by omega, by simp, BD.out, (show ∀ q, q < i + 1 → _ from fun q hq hk => by
            by_cases e : q = i
            · subst e; rw [HXX.out, HYY.out]
            · exact HQ.out q (by omega) hk)⟩, by simp [intOf]; omega⟩
        · go_wp2_with fail
          refine wp_region_held (S := (fun wz => Below w.heap.size w wz)) (by kernel_rfl) ?_
          change wpAnyH _ _ _ _ _ _ _ _ (World.drew _)
          have hHeld := HBR.out.drew
          refine' wpAnyH_take (i := 0) (v := (.bool true)) rfl (by kernel_rfl) (by kernel_rfl) (by kernel_rfl) (fun _ _ _ h => h) (Or.inl ⟨by rfl, ?hy15025⟩) hHeld ?hn15025
          case hy15025 => (intro wz hSw; go_simp; first | done | (simp; done))
          try simp only [nrm, Act.put]
          refine' wpAnyH_take (i := 1) (v := (.bool true)) rfl (by kernel_rfl) (by kernel_rfl) (by kernel_rfl) (fun _ _ _ h => h) (Or.inl ⟨by rfl, ?hy15026⟩) hHeld ?hn15026
          case hy15026 => (intro wz hSw; go_simp; first | done | (simp; done))
          try simp only [nrm, Act.put]
          refine' wpAnyH_take (i := 2) (v := _) rfl (by kernel_rfl) (by kernel_rfl) (by kernel_rfl) (fun _ _ _ h => h) (Or.inl ⟨by rfl, ?hy15027⟩) hHeld ?hn15027
          case hy15027 => (intro wz hSw; (try dsimp only at hSw); go_simp; first | done | with_reducible rfl)
          try simp only [nrm, Act.put]
          refine' wpAnyH_take (i := 3) (v := _) rfl (by kernel_rfl) (by kernel_rfl) (by kernel_rfl) (fun _ _ _ h => h) (Or.inl ⟨by rfl, ?hy15028⟩) hHeld ?hn15028
          case hy15028 => (intro wz hSw; (try dsimp only at hSw); go_simp; first | done | with_reducible rfl)
          try simp only [nrm, Act.put]
          refine' wpAnyH_take (i := 4) (v := _) rfl (by kernel_rfl) (by kernel_rfl) (by kernel_rfl) (fun _ _ _ h => h) (Or.inl ⟨by rfl, ?hy15029⟩) hHeld ?hn15029
          case hy15029 => (intro wz hSw; (try dsimp only at hSw); go_simp; first | done | with_reducible rfl)
          try simp only [nrm, Act.put]
          refine' wpAnyH_take (i := 5) (v := (.int .i64 x)) rfl (by kernel_rfl) (by kernel_rfl) (by kernel_rfl) (fun _ _ _ h => h) (Or.inl ⟨by rfl, ?hy15030⟩) hHeld ?hn15030
          case hy15030 => (intro wz hSw; have k := cell_later hSw k0; go_simp)
          try simp only [nrm, Act.put]
          refine' wpAnyH_take (i := 6) (v := _) rfl (by kernel_rfl) (by kernel_rfl) (by kernel_rfl) (fun _ _ _ h => h) (Or.inl ⟨by rfl, ?hy15031⟩) hHeld ?hn15031
          case hy15031 => (intro wz hSw; (try dsimp only at hSw); go_simp; first | done | with_reducible rfl)
          try simp only [nrm, Act.put]
          refine' wpAnyH_take (i := 7) (v := _) rfl (by kernel_rfl) (by kernel_rfl) (by kernel_rfl) (fun _ _ _ h => h) (Or.inl ⟨by rfl, ?hy15032⟩) hHeld ?hn15032
          case hy15032 => (intro wz hSw; (try dsimp only at hSw); go_simp; first | done | with_reducible rfl)
          try simp only [nrm, Act.put]
          refine' wpAnyH_take (i := 8) (v := _) rfl (by kernel_rfl) (by kernel_rfl) (by kernel_rfl) (fun _ _ _ h => h) (Or.inl ⟨by rfl, ?hy15033⟩) hHeld ?hn15033
          case hy15033 => (intro wz hSw; (try dsimp only at hSw); go_simp; first | done | with_reducible rfl)
          try simp only [nrm, Act.put]
          refine' wpAnyH_take (i := 9) (v := (.int .i64 y)) rfl (by kernel_rfl) (by kernel_rfl) (by kernel_rfl) (fun _ _ _ h => h) (Or.inl ⟨by rfl, ?hy15034⟩) hHeld ?hn15034
          case hy15034 => (intro wz hSw; have k := cell_later hSw m0; go_simp)
          try simp only [nrm, Act.put]
          refine' wpAnyH_take (i := 10) (v := (.bool true)) rfl (by kernel_rfl) (by kernel_rfl) (by kernel_rfl) (fun _ _ _ h => h) (Or.inl ⟨by rfl, ?hy15035⟩) hHeld ?hn15035
          case hy15035 => (intro wz hSw; go_simp; first | done | (simp [hxy]; done) | simpa using hxy)
          try simp only [nrm, Act.put]
          refine' wpAnyH_take (i := 11) (v := _) rfl (by kernel_rfl) (by kernel_rfl) (by kernel_rfl) (fun _ _ _ h => h) (Or.inl ⟨by rfl, ?hy15036⟩) hHeld ?hn15036
          case hy15036 => (intro wz hSw; (try dsimp only at hSw); go_simp; first | done | with_reducible rfl)
          try simp only [nrm, Act.put]
          refine wpAnyH_done (by kernel_rfl) ?_ _
          have BD : Hid (Below w.heap.size w (World.drew wr)) := HBR.out.drew
          have HNO : Hid (sameB ks xs ys = false) := sameB_no hlt HKK.out (by rw [HXX.out, HYY.out]; exact hxy)
          clear hHeld k0 m0 q0
          go_wp2
          go_ret
          exact ⟨by rw [HNO.out]; rfl, BD.out⟩
    · have hie : i = ks.length := by omega
      subst hie
      have HYES : Hid (sameB ks xs ys = true) := sameB_yes HQ.out
      go_wp2
      go_ret
      exact ⟨by rw [HYES.out]; rfl, HBR.out⟩

end Go.Proofs.YthcgdhlemieboaaGreat
