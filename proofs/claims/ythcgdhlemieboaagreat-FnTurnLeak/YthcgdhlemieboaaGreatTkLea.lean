/- Rows of bits, and rows held against one another, by the model. -/
import Derived.Test.YthcgdhlemieboaaGreatTkRwx
import Derived.Test.YthcgdhlemieboaaGreatTkLcx
import Derived.Deep.RegionHeld3
import Derived.Deep.DrawnRows
namespace Go.Proofs.YthcgdhlemieboaaGreat
open Go.RowKit
set_option linter.unusedSimpArgs false
set_option linter.unusedVariables false
attribute [local go_sem] World.cell?_alloc_some

def bitsL (n size : Nat) : List Int := (List.range size).map fun i : Nat => ((n : Int) / 2 ^ i).tmod 2
theorem bitsL_len (n size : Nat) : (bitsL n size).length = size := by simp [bitsL]
theorem bitsL_succ (n size : Nat) : bitsL n (size + 1) = bitsL n size ++ [((n : Int) / 2 ^ size).tmod 2] := by simp [bitsL, List.range_succ]
theorem row_repL {α : Type} {f : α → Value} {w : World} {base : Nat} {e : TypeId} {g c : Nat} {xs : List α} (h : w.ownsRow base e 1 (.slice (some ⟨g, 0, none⟩) xs.length c) xs.length (xs.map f)) : GRep f w (.slice (some ⟨g, 0, none⟩) xs.length c) xs := by
  obtain ⟨_, ho, _⟩ := row_gown h
  exact ho.rep

set_option maxHeartbeats 4000000 in
theorem l12Row_any (n size : Nat) (hn : n ≤ 65536) (hs : size ≤ 8) (w : World) :
    Calls Tryz.prog 37 #[.int .i64 (n : Int), .int .i64 (size : Int)] w fun e w' => ∃ g c, e = .returned (.slice (some ⟨g, 0, none⟩) size c) ∧ Below w.heap.size w w' ∧ w.heap.size ≤ g ∧ GRep (Value.int .i64) w' (.slice (some ⟨g, 0, none⟩) size c) (bitsL n size) := by
  obtain ⟨i0, hi0, hz0, hz1, hz2⟩ := info_parts infoInt
  have ARB : Below w.heap.size w (w.alloc (.cells #[] 3)) := (Below.refl _ _).alloc (Nat.le_refl _) _
  have ROW0 := World.ownsRow_made (base := w.heap.size) (e := 3) (size := 1) w #[] 0 (by simp) (by unfold maxLen; omega) (by simp)
  have HRW : Hid (Below w.heap.size w (w.alloc (.cells #[] 3)) ∧ (w.alloc (.cells #[] 3)).ownsRow w.heap.size 3 1 (.slice (some ⟨w.heap.size, 0, none⟩) 0 0) 0 ((bitsL n 0).map (Value.int .i64))) := ⟨ARB, by simpa [bitsL] using ROW0⟩
  clear ARB ROW0
  go_enter Tryz.func37, Tryz.ntmps37
  go_wp2_with fail
  go_loopw [5, 6] (fun o j wr => ∃ (i ra rc : Nat), i ≤ size ∧ j = .int .i64 i ∧ o = .slice (some ⟨ra, 0, none⟩) i rc ∧ Below w.heap.size w wr ∧ wr.ownsRow w.heap.size 3 1 (.slice (some ⟨ra, 0, none⟩) i rc) i ((bitsL n i).map (Value.int .i64))) (fun _ j _ => size - (intOf j).toNat)
  case atStart => exact ⟨0, w.heap.size, 0, by omega, rfl, rfl, HRW.out.1, HRW.out.2⟩
  case round =>
    obtain ⟨i, ra, rc, hi, rfl, rfl, hbr, hor⟩ := hrel
    have HBR : Hid (Below w.heap.size w wr) := hbr
    have HOR : Hid (wr.ownsRow w.heap.size 3 1 (.slice (some ⟨ra, 0, none⟩) i rc) i ((bitsL n i).map (Value.int .i64))) := hor
    have hsz : w.heap.size ≤ wr.heap.size := hbr.size
    have hral := World.ownsRow.lt hor ra rfl
    clear hbr hor
    by_cases hlt : i < size
    · have i1' : (i : Int) < (size : Int) := by omega
      go_wp2_with (at_builtin; refine wpList_append_own_at _ rfl _ _ 29 rfl w.heap.size 3 i0 _ 1 8 Tryz.underlying29 hi0 hz0 hz1 hz2 rfl (by decide) _ _ _ rfl (HOR.out.alloc _) ⟨wr.heap.size, 0, none⟩ 1 1 [.int .i64 (((n : Int) / 2 ^ i).tmod 2)] rfl rfl ?c11 ?c21 ?c31 ?c41 ?c51 ?_)
      case c11 => exact cells_new1 wr _ _ _ rfl
      case c21 => simp [Value.oneCell']
      case c31 => unfold maxLen; omega
      case c41 => omega
      case c51 => simp; omega
      intro v5 w5' own5 grow5 nn5 at5
      have nz : v5 ≠ .slice none 0 0 := by intro e; have := nn5; simp [e] at this
      obtain ⟨g5, gc5, hv5⟩ : ∃ g5 gc5, v5 = .slice (some ⟨g5, 0, none⟩) (i + 1) gc5 := by
        obtain ⟨_, ⟨q, _⟩ | ⟨g5, c5, _, q, _⟩⟩ := id own5
        · exact (nz q).elim
        · exact ⟨g5, c5, q⟩
      subst hv5
      have BX : Hid (Below w.heap.size w w5') := (HBR.out.alloc hsz _).grown grow5 (by simp; omega) (fun k hk => by have e : ra = k := (by simpa [Value.ownBlock] using hk); omega)
      have OX : Hid (w5'.ownsRow w.heap.size 3 1 (.slice (some ⟨g5, 0, none⟩) (i + 1) gc5) (i + 1) ((bitsL n (i + 1)).map (Value.int .i64))) := (show w5'.ownsRow w.heap.size 3 1 (.slice (some ⟨g5, 0, none⟩) (i + 1) gc5) (i + 1) ((bitsL n (i + 1)).map (Value.int .i64)) by rw [bitsL_succ, List.map_append]; exact own5)
      clear own5 grow5 nn5 at5 nz
      go_wp2
      exact ⟨⟨i + 1, g5, gc5, by omega, by simp, by simp, BX.out, OX.out⟩, by simp [intOf]; omega⟩
    · have hie : i = size := by omega
      subst hie
      have hrl := hral.1
      go_wp2
      go_ret
      have hrp := row_repL (xs := bitsL n i) (f := Value.int .i64) (by rw [bitsL_len]; exact HOR.out)
      rw [bitsL_len] at hrp
      exact ⟨ra, rc, rfl, HBR.out, hrl, hrp⟩

def sameB (ks : List Bool) (xs ys : List Int) : Bool := (List.range ks.length).all fun i => !(ks.getD i false) || decide (xs.getD i 0 = ys.getD i 0)
theorem sameB_yes {ks : List Bool} {xs ys : List Int} (h : ∀ q, q < ks.length → ks.getD q false = true → xs.getD q 0 = ys.getD q 0) : sameB ks xs ys = true := by
  refine List.all_eq_true.2 fun q hq => ?_
  have hq' := List.mem_range.1 hq
  cases hk : ks.getD q false
  · rfl
  · simpa using h q hq' hk
theorem sameB_no {ks : List Bool} {xs ys : List Int} {q : Nat} (hq : q < ks.length) (hk : ks.getD q false = true) (h : xs.getD q 0 ≠ ys.getD q 0) : sameB ks xs ys = false := by
  rw [← Bool.not_eq_true]
  intro hs
  have := List.all_eq_true.1 hs q (List.mem_range.2 hq)
  rw [hk] at this
  exact h (by simpa using this)

set_option maxHeartbeats 4000000 in
theorem l12Same_any {v v' kv : Value} {xs ys : List Int} {ks : List Bool} {w : World} (h : GRep (Value.int .i64) w v xs) (h' : GRep (Value.int .i64) w v' ys) (hK : GRep Value.bool w kv ks) (hx : ks.length ≤ xs.length) (hy : ks.length ≤ ys.length) :
    Calls Tryz.prog 38 #[v, v', kv] w fun e w' => e = .returned (.bool (sameB ks xs ys)) ∧ Below w.heap.size w w' := by
  obtain ⟨a, c, rfl, hlc, hcm, hcell⟩ := h
  obtain ⟨a', c', rfl, hlc', hcm', hcell'⟩ := h'
  obtain ⟨ka, kc, rfl, hkc, hkm, hkcell⟩ := hK
  have hkm' : (ks.length : Int) ≤ 9223372036854775807 := by unfold maxLen at hkm; omega
  have HC : Hid (∀ i (hi : i < ks.length), ∃ b off b' off' b3 o3, (a = some ⟨b, off, none⟩ ∧ w.cell? ⟨b, off + i, none⟩ = some (.int .i64 (xs.getD i 0))) ∧ (a' = some ⟨b', off', none⟩ ∧ w.cell? ⟨b', off' + i, none⟩ = some (.int .i64 (ys.getD i 0))) ∧ (ka = some ⟨b3, o3, none⟩ ∧ w.cell? ⟨b3, o3 + i, none⟩ = some (.bool (ks.getD i false)))) := (show ∀ i (hi : i < ks.length), _ from fun i hi => by
    obtain ⟨b, off, ha, h0⟩ := hcell i (by omega)
    obtain ⟨b', off', ha', h0'⟩ := hcell' i (by omega)
    obtain ⟨b3, o3, hb3, h3⟩ := hkcell i (by omega)
    refine ⟨b, off, b', off', b3, o3, ⟨ha, ?_⟩, ⟨ha', ?_⟩, ⟨hb3, ?_⟩⟩
    · rw [h0, List.getD_eq_getElem?_getD, List.getElem?_eq_getElem (by omega), Option.getD_some]
    · rw [h0', List.getD_eq_getElem?_getD, List.getElem?_eq_getElem (by omega), Option.getD_some]
    · rw [h3, List.getD_eq_getElem?_getD, List.getElem?_eq_getElem (by omega), Option.getD_some])
  clear hcell hcell' hkcell
  go_enter Tryz.func38, Tryz.ntmps38
  go_wp2_with fail
  go_loopw [7] (fun j wr => ∃ (i : Nat), i ≤ ks.length ∧ j = .int .i64 i ∧ Below w.heap.size w wr ∧ Hid (∀ q, q < i → ks.getD q false = true → xs.getD q 0 = ys.getD q 0)) (fun j _ => ks.length - (intOf j).toNat)
  case atStart => exact ⟨0, by omega, rfl, Below.refl _ _, (show ∀ q, q < 0 → _ from fun q hq => by omega)⟩
  case round =>
    obtain ⟨i, hi, rfl, hbr, HQ⟩ := hrel
    have HBR : Hid (Below w.heap.size w wr) := hbr
    clear hbr
    by_cases hlt : i < ks.length
    · obtain ⟨b, off, b', off', b3, o3, ⟨rfl, k0⟩, ⟨rfl, m0⟩, rfl, q0⟩ := HC.out i hlt
      have i1' : (i : Int) < (ks.length : Int) := by omega
      have i2' : (i : Int) < (xs.length : Int) := by omega
      have i3' : (i : Int) < (ys.length : Int) := by omega
      obtain ⟨kk, hkk⟩ : ∃ kk, ks.getD i false = kk := ⟨_, rfl⟩
      obtain ⟨x, hxx⟩ : ∃ x, xs.getD i 0 = x := ⟨_, rfl⟩
      obtain ⟨y, hyy⟩ : ∃ y, ys.getD i 0 = y := ⟨_, rfl⟩
      rw [hkk] at q0
      rw [hxx] at k0
      rw [hyy] at m0
      have HKK : Hid _ := hkk
      have HXX : Hid _ := hxx
      have HYY : Hid _ := hyy
      clear hkk hxx hyy
      cases kk
      · go_wp2_with fail
        refine wp_region_held (S := (fun wz => Below w.heap.size w wz)) (by kernel_rfl) ?_
        change wpAnyH _ _ _ _ _ _ _ _ (World.drew _)
        have hHeld := HBR.out.drew
        refine' wpAnyH_take (i := 0) (v := _) rfl (by kernel_rfl) (by kernel_rfl) (by kernel_rfl) (fun _ _ _ h => h) (Or.inl ⟨by rfl, ?hy5001⟩) hHeld ?hn5001
        case hy5001 => (intro wz hSw; (try dsimp only at hSw); go_simp; first | done | with_reducible rfl)
        try simp only [nrm, Act.put]
        refine' wpAnyH_take (i := 1) (v := _) rfl (by kernel_rfl) (by kernel_rfl) (by kernel_rfl) (fun _ _ _ h => h) (Or.inl ⟨by rfl, ?hy5002⟩) hHeld ?hn5002
        case hy5002 => (intro wz hSw; (try dsimp only at hSw); go_simp; first | done | with_reducible rfl)
        try simp only [nrm, Act.put]
        refine' wpAnyH_take (i := 2) (v := _) rfl (by kernel_rfl) (by kernel_rfl) (by kernel_rfl) (fun _ _ _ h => h) (Or.inl ⟨by rfl, ?hy5003⟩) hHeld ?hn5003
        case hy5003 => (intro wz hSw; (try dsimp only at hSw); go_simp; first | done | with_reducible rfl)
        try simp only [nrm, Act.put]
        refine' wpAnyH_take (i := 3) (v := (.bool false)) rfl (by kernel_rfl) (by kernel_rfl) (by kernel_rfl) (fun _ _ _ h => h) (Or.inl ⟨by rfl, ?hy5004⟩) hHeld ?hn5004
        case hy5004 => (intro wz hSw; have k := cell_later hSw q0; go_simp)
        try simp only [nrm, Act.put]
        refine' wpAnyH_take (i := 4) (v := (.bool false)) rfl (by kernel_rfl) (by kernel_rfl) (by kernel_rfl) (fun _ _ _ h => h) (Or.inl ⟨by rfl, ?hy5005⟩) hHeld ?hn5005
        case hy5005 => (intro wz hSw; go_simp; first | done | (simp; done))
        try simp only [nrm, Act.put]
        refine' wpAnyH_take (i := 5) (v := undef) rfl (by kernel_rfl) (by kernel_rfl) (by kernel_rfl) (fun _ _ _ h => h) (Or.inr ⟨by rfl, rfl⟩) hHeld ?hn5006
        try simp only [nrm, Act.put]
        refine' wpAnyH_take (i := 6) (v := undef) rfl (by kernel_rfl) (by kernel_rfl) (by kernel_rfl) (fun _ _ _ h => h) (Or.inr ⟨by rfl, rfl⟩) hHeld ?hn5007
        try simp only [nrm, Act.put]
        refine' wpAnyH_take (i := 7) (v := undef) rfl (by kernel_rfl) (by kernel_rfl) (by kernel_rfl) (fun _ _ _ h => h) (Or.inr ⟨by rfl, rfl⟩) hHeld ?hn5008
        try simp only [nrm, Act.put]
        refine' wpAnyH_take (i := 8) (v := undef) rfl (by kernel_rfl) (by kernel_rfl) (by kernel_rfl) (fun _ _ _ h => h) (Or.inr ⟨by rfl, rfl⟩) hHeld ?hn5009
        try simp only [nrm, Act.put]
        refine' wpAnyH_take (i := 9) (v := undef) rfl (by kernel_rfl) (by kernel_rfl) (by kernel_rfl) (fun _ _ _ h => h) (Or.inr ⟨by rfl, rfl⟩) hHeld ?hn5010
        try simp only [nrm, Act.put]
        refine' wpAnyH_take (i := 10) (v := undef) rfl (by kernel_rfl) (by kernel_rfl) (by kernel_rfl) (fun _ _ _ h => h) (Or.inr ⟨by rfl, rfl⟩) hHeld ?hn5011
        try simp only [nrm, Act.put]
        refine' wpAnyH_take (i := 11) (v := undef) rfl (by kernel_rfl) (by kernel_rfl) (by kernel_rfl) (fun _ _ _ h => h) (Or.inr ⟨by rfl, rfl⟩) hHeld ?hn5012
        try simp only [nrm, Act.put]
        refine' wpAnyH_take (i := 12) (v := undef) rfl (by kernel_rfl) (by kernel_rfl) (by kernel_rfl) (fun _ _ _ h => h) (Or.inr ⟨by rfl, rfl⟩) hHeld ?hn5013
        try simp only [nrm, Act.put]
        refine' wpAnyH_take (i := 13) (v := undef) rfl (by kernel_rfl) (by kernel_rfl) (by kernel_rfl) (fun _ _ _ h => h) (Or.inr ⟨by rfl, rfl⟩) hHeld ?hn5014
        try simp only [nrm, Act.put]
        refine' wpAnyH_take (i := 14) (v := _) rfl (by kernel_rfl) (by kernel_rfl) (by kernel_rfl) (fun _ _ _ h => h) (Or.inl ⟨by rfl, ?hy5015⟩) hHeld ?hn5015
        case hy5015 => (intro wz hSw; (try dsimp only at hSw); go_simp; first | done | with_reducible rfl)
        try simp only [nrm, Act.put]
        refine wpAnyH_done (by kernel_rfl) ?_ _
        have BD : Hid (Below w.heap.size w (World.drew wr)) := HBR.out.drew
        clear hHeld k0 m0 q0
        go_wp2
        exact ⟨⟨i + 1, by omega, by simp, BD.out, (show ∀ q, q < i + 1 → _ from fun q hq hk => by
          by_cases e : q = i
          · subst e; rw [HKK.out] at hk; cases hk
          · exact HQ.out q (by omega) hk)⟩, by simp [intOf]; omega⟩
      · by_cases hxy : x = y
        · subst hxy
          go_wp2_with fail
          refine wp_region_held (S := (fun wz => Below w.heap.size w wz)) (by kernel_rfl) ?_
          change wpAnyH _ _ _ _ _ _ _ _ (World.drew _)
          have hHeld := HBR.out.drew
          refine' wpAnyH_take (i := 0) (v := _) rfl (by kernel_rfl) (by kernel_rfl) (by kernel_rfl) (fun _ _ _ h => h) (Or.inl ⟨by rfl, ?hy5016⟩) hHeld ?hn5016
          case hy5016 => (intro wz hSw; (try dsimp only at hSw); go_simp; first | done | with_reducible rfl)
          try simp only [nrm, Act.put]
          refine' wpAnyH_take (i := 1) (v := _) rfl (by kernel_rfl) (by kernel_rfl) (by kernel_rfl) (fun _ _ _ h => h) (Or.inl ⟨by rfl, ?hy5017⟩) hHeld ?hn5017
          case hy5017 => (intro wz hSw; (try dsimp only at hSw); go_simp; first | done | with_reducible rfl)
          try simp only [nrm, Act.put]
          refine' wpAnyH_take (i := 2) (v := _) rfl (by kernel_rfl) (by kernel_rfl) (by kernel_rfl) (fun _ _ _ h => h) (Or.inl ⟨by rfl, ?hy5018⟩) hHeld ?hn5018
          case hy5018 => (intro wz hSw; (try dsimp only at hSw); go_simp; first | done | with_reducible rfl)
          try simp only [nrm, Act.put]
          refine' wpAnyH_take (i := 3) (v := (.bool true)) rfl (by kernel_rfl) (by kernel_rfl) (by kernel_rfl) (fun _ _ _ h => h) (Or.inl ⟨by rfl, ?hy5019⟩) hHeld ?hn5019
          case hy5019 => (intro wz hSw; have k := cell_later hSw q0; go_simp)
          try simp only [nrm, Act.put]
          refine' wpAnyH_take (i := 4) (v := (.bool true)) rfl (by kernel_rfl) (by kernel_rfl) (by kernel_rfl) (fun _ _ _ h => h) (Or.inl ⟨by rfl, ?hy5020⟩) hHeld ?hn5020
          case hy5020 => (intro wz hSw; go_simp; first | done | (simp; done))
          try simp only [nrm, Act.put]
          refine' wpAnyH_take (i := 5) (v := _) rfl (by kernel_rfl) (by kernel_rfl) (by kernel_rfl) (fun _ _ _ h => h) (Or.inl ⟨by rfl, ?hy5021⟩) hHeld ?hn5021
          case hy5021 => (intro wz hSw; (try dsimp only at hSw); go_simp; first | done | with_reducible rfl)
          try simp only [nrm, Act.put]
          refine' wpAnyH_take (i := 6) (v := _) rfl (by kernel_rfl) (by kernel_rfl) (by kernel_rfl) (fun _ _ _ h => h) (Or.inl ⟨by rfl, ?hy5022⟩) hHeld ?hn5022
          case hy5022 => (intro wz hSw; (try dsimp only at hSw); go_simp; first | done | with_reducible rfl)
          try simp only [nrm, Act.put]
          refine' wpAnyH_take (i := 7) (v := _) rfl (by kernel_rfl) (by kernel_rfl) (by kernel_rfl) (fun _ _ _ h => h) (Or.inl ⟨by rfl, ?hy5023⟩) hHeld ?hn5023
          case hy5023 => (intro wz hSw; (try dsimp only at hSw); go_simp; first | done | with_reducible rfl)
          try simp only [nrm, Act.put]
          refine' wpAnyH_take (i := 8) (v := (.int .i64 x)) rfl (by kernel_rfl) (by kernel_rfl) (by kernel_rfl) (fun _ _ _ h => h) (Or.inl ⟨by rfl, ?hy5024⟩) hHeld ?hn5024
          case hy5024 => (intro wz hSw; have k := cell_later hSw k0; go_simp)
          try simp only [nrm, Act.put]
          refine' wpAnyH_take (i := 9) (v := _) rfl (by kernel_rfl) (by kernel_rfl) (by kernel_rfl) (fun _ _ _ h => h) (Or.inl ⟨by rfl, ?hy5025⟩) hHeld ?hn5025
          case hy5025 => (intro wz hSw; (try dsimp only at hSw); go_simp; first | done | with_reducible rfl)
          try simp only [nrm, Act.put]
          refine' wpAnyH_take (i := 10) (v := _) rfl (by kernel_rfl) (by kernel_rfl) (by kernel_rfl) (fun _ _ _ h => h) (Or.inl ⟨by rfl, ?hy5026⟩) hHeld ?hn5026
          case hy5026 => (intro wz hSw; (try dsimp only at hSw); go_simp; first | done | with_reducible rfl)
          try simp only [nrm, Act.put]
          refine' wpAnyH_take (i := 11) (v := _) rfl (by kernel_rfl) (by kernel_rfl) (by kernel_rfl) (fun _ _ _ h => h) (Or.inl ⟨by rfl, ?hy5027⟩) hHeld ?hn5027
          case hy5027 => (intro wz hSw; (try dsimp only at hSw); go_simp; first | done | with_reducible rfl)
          try simp only [nrm, Act.put]
          refine' wpAnyH_take (i := 12) (v := (.int .i64 x)) rfl (by kernel_rfl) (by kernel_rfl) (by kernel_rfl) (fun _ _ _ h => h) (Or.inl ⟨by rfl, ?hy5028⟩) hHeld ?hn5028
          case hy5028 => (intro wz hSw; have k := cell_later hSw m0; go_simp)
          try simp only [nrm, Act.put]
          refine' wpAnyH_take (i := 13) (v := (.bool false)) rfl (by kernel_rfl) (by kernel_rfl) (by kernel_rfl) (fun _ _ _ h => h) (Or.inl ⟨by rfl, ?hy5029⟩) hHeld ?hn5029
          case hy5029 => (intro wz hSw; go_simp; first | done | (simp; done))
          try simp only [nrm, Act.put]
          refine' wpAnyH_take (i := 14) (v := _) rfl (by kernel_rfl) (by kernel_rfl) (by kernel_rfl) (fun _ _ _ h => h) (Or.inl ⟨by rfl, ?hy5030⟩) hHeld ?hn5030
          case hy5030 => (intro wz hSw; (try dsimp only at hSw); go_simp; first | done | with_reducible rfl)
          try simp only [nrm, Act.put]
          refine wpAnyH_done (by kernel_rfl) ?_ _
          have BD : Hid (Below w.heap.size w (World.drew wr)) := HBR.out.drew
          clear hHeld k0 m0 q0
          go_wp2
          exact ⟨⟨i + 1, by omega, by simp, BD.out, (show ∀ q, q < i + 1 → _ from fun q hq hk => by
            by_cases e : q = i
            · subst e; rw [HXX.out, HYY.out]
            · exact HQ.out q (by omega) hk)⟩, by simp [intOf]; omega⟩
        · go_wp2_with fail
          refine wp_region_held (S := (fun wz => Below w.heap.size w wz)) (by kernel_rfl) ?_
          change wpAnyH _ _ _ _ _ _ _ _ (World.drew _)
          have hHeld := HBR.out.drew
          refine' wpAnyH_take (i := 0) (v := _) rfl (by kernel_rfl) (by kernel_rfl) (by kernel_rfl) (fun _ _ _ h => h) (Or.inl ⟨by rfl, ?hy5031⟩) hHeld ?hn5031
          case hy5031 => (intro wz hSw; (try dsimp only at hSw); go_simp; first | done | with_reducible rfl)
          try simp only [nrm, Act.put]
          refine' wpAnyH_take (i := 1) (v := _) rfl (by kernel_rfl) (by kernel_rfl) (by kernel_rfl) (fun _ _ _ h => h) (Or.inl ⟨by rfl, ?hy5032⟩) hHeld ?hn5032
          case hy5032 => (intro wz hSw; (try dsimp only at hSw); go_simp; first | done | with_reducible rfl)
          try simp only [nrm, Act.put]
          refine' wpAnyH_take (i := 2) (v := _) rfl (by kernel_rfl) (by kernel_rfl) (by kernel_rfl) (fun _ _ _ h => h) (Or.inl ⟨by rfl, ?hy5033⟩) hHeld ?hn5033
          case hy5033 => (intro wz hSw; (try dsimp only at hSw); go_simp; first | done | with_reducible rfl)
          try simp only [nrm, Act.put]
          refine' wpAnyH_take (i := 3) (v := (.bool true)) rfl (by kernel_rfl) (by kernel_rfl) (by kernel_rfl) (fun _ _ _ h => h) (Or.inl ⟨by rfl, ?hy5034⟩) hHeld ?hn5034
          case hy5034 => (intro wz hSw; have k := cell_later hSw q0; go_simp)
          try simp only [nrm, Act.put]
          refine' wpAnyH_take (i := 4) (v := (.bool true)) rfl (by kernel_rfl) (by kernel_rfl) (by kernel_rfl) (fun _ _ _ h => h) (Or.inl ⟨by rfl, ?hy5035⟩) hHeld ?hn5035
          case hy5035 => (intro wz hSw; go_simp; first | done | (simp; done))
          try simp only [nrm, Act.put]
          refine' wpAnyH_take (i := 5) (v := _) rfl (by kernel_rfl) (by kernel_rfl) (by kernel_rfl) (fun _ _ _ h => h) (Or.inl ⟨by rfl, ?hy5036⟩) hHeld ?hn5036
          case hy5036 => (intro wz hSw; (try dsimp only at hSw); go_simp; first | done | with_reducible rfl)
          try simp only [nrm, Act.put]
          refine' wpAnyH_take (i := 6) (v := _) rfl (by kernel_rfl) (by kernel_rfl) (by kernel_rfl) (fun _ _ _ h => h) (Or.inl ⟨by rfl, ?hy5037⟩) hHeld ?hn5037
          case hy5037 => (intro wz hSw; (try dsimp only at hSw); go_simp; first | done | with_reducible rfl)
          try simp only [nrm, Act.put]
          refine' wpAnyH_take (i := 7) (v := _) rfl (by kernel_rfl) (by kernel_rfl) (by kernel_rfl) (fun _ _ _ h => h) (Or.inl ⟨by rfl, ?hy5038⟩) hHeld ?hn5038
          case hy5038 => (intro wz hSw; (try dsimp only at hSw); go_simp; first | done | with_reducible rfl)
          try simp only [nrm, Act.put]
          refine' wpAnyH_take (i := 8) (v := (.int .i64 x)) rfl (by kernel_rfl) (by kernel_rfl) (by kernel_rfl) (fun _ _ _ h => h) (Or.inl ⟨by rfl, ?hy5039⟩) hHeld ?hn5039
          case hy5039 => (intro wz hSw; have k := cell_later hSw k0; go_simp)
          try simp only [nrm, Act.put]
          refine' wpAnyH_take (i := 9) (v := _) rfl (by kernel_rfl) (by kernel_rfl) (by kernel_rfl) (fun _ _ _ h => h) (Or.inl ⟨by rfl, ?hy5040⟩) hHeld ?hn5040
          case hy5040 => (intro wz hSw; (try dsimp only at hSw); go_simp; first | done | with_reducible rfl)
          try simp only [nrm, Act.put]
          refine' wpAnyH_take (i := 10) (v := _) rfl (by kernel_rfl) (by kernel_rfl) (by kernel_rfl) (fun _ _ _ h => h) (Or.inl ⟨by rfl, ?hy5041⟩) hHeld ?hn5041
          case hy5041 => (intro wz hSw; (try dsimp only at hSw); go_simp; first | done | with_reducible rfl)
          try simp only [nrm, Act.put]
          refine' wpAnyH_take (i := 11) (v := _) rfl (by kernel_rfl) (by kernel_rfl) (by kernel_rfl) (fun _ _ _ h => h) (Or.inl ⟨by rfl, ?hy5042⟩) hHeld ?hn5042
          case hy5042 => (intro wz hSw; (try dsimp only at hSw); go_simp; first | done | with_reducible rfl)
          try simp only [nrm, Act.put]
          refine' wpAnyH_take (i := 12) (v := (.int .i64 y)) rfl (by kernel_rfl) (by kernel_rfl) (by kernel_rfl) (fun _ _ _ h => h) (Or.inl ⟨by rfl, ?hy5043⟩) hHeld ?hn5043
          case hy5043 => (intro wz hSw; have k := cell_later hSw m0; go_simp)
          try simp only [nrm, Act.put]
          refine' wpAnyH_take (i := 13) (v := (.bool true)) rfl (by kernel_rfl) (by kernel_rfl) (by kernel_rfl) (fun _ _ _ h => h) (Or.inl ⟨by rfl, ?hy5044⟩) hHeld ?hn5044
          case hy5044 => (intro wz hSw; go_simp; first | done | (simp [hxy]; done) | simpa using hxy)
          try simp only [nrm, Act.put]
          refine' wpAnyH_take (i := 14) (v := _) rfl (by kernel_rfl) (by kernel_rfl) (by kernel_rfl) (fun _ _ _ h => h) (Or.inl ⟨by rfl, ?hy5045⟩) hHeld ?hn5045
          case hy5045 => (intro wz hSw; (try dsimp only at hSw); go_simp; first | done | with_reducible rfl)
          try simp only [nrm, Act.put]
          refine wpAnyH_done (by kernel_rfl) ?_ _
          have BD : Hid (Below w.heap.size w (World.drew wr)) := HBR.out.drew
          have HNO : Hid (sameB ks xs ys = false) := sameB_no hlt HKK.out (by rw [HXX.out, HYY.out]; exact hxy)
          clear hHeld k0 m0 q0
          go_wp2
          go_ret
          exact ⟨by rw [HNO.out]; rfl, BD.out⟩
    · have hie : i = ks.length := by omega
      subst hie
      have HYES : Hid (sameB ks xs ys = true) := sameB_yes HQ.out
      go_wp2
      go_ret
      exact ⟨by rw [HYES.out]; rfl, HBR.out⟩

set_option maxHeartbeats 2000000 in
theorem l12Ints_any {v v' : Value} {zs ys : List Int} {w : World} (h : GRep (Value.int .i64) w v zs) (h' : GRep (Value.int .i64) w v' ys) :
    Calls Tryz.prog 40 #[v, v'] w fun e w' => e = .returned (.bool (decide (zs = ys))) ∧ Below w.heap.size w w' := by
  obtain ⟨a, c, rfl, hlc, hcm, hcell⟩ := h
  obtain ⟨a', c', rfl, hlc', hcm', hcell'⟩ := h'
  have hlm : (zs.length : Int) ≤ 9223372036854775807 := by unfold maxLen at hcm; omega
  have hlm' : (ys.length : Int) ≤ 9223372036854775807 := by unfold maxLen at hcm'; omega
  have HC : Hid (∀ i (hi : i < zs.length) (hi' : i < ys.length), ∃ b off b' off' x y, zs[i] = x ∧ ys[i] = y ∧ (a = some ⟨b, off, none⟩ ∧ w.cell? ⟨b, off + i, none⟩ = some (.int .i64 x)) ∧ (a' = some ⟨b', off', none⟩ ∧ w.cell? ⟨b', off' + i, none⟩ = some (.int .i64 y))) := (by
    intro i hi hi'
    obtain ⟨b, off, ha, h0⟩ := hcell i hi
    obtain ⟨b', off', ha', h0'⟩ := hcell' i hi'
    exact ⟨b, off, b', off', _, _, rfl, rfl, ⟨ha, h0⟩, ha', h0'⟩)
  clear hcell hcell'
  obtain ⟨r, hr⟩ : ∃ r, decide (zs = ys) = r := ⟨_, rfl⟩
  rw [hr]
  by_cases hll : ¬ zs.length = ys.length
  · obtain rfl : false = r := by rw [← hr]; symm; simp; rintro rfl; exact hll rfl
    have hz : ¬ (zs.length : Int) = (ys.length : Int) := by omega
    clear hr HC
    go_enter Tryz.func40, Tryz.ntmps40
    go_wp2
    go_ret
    exact ⟨rfl, Below.refl _ _⟩
  have HR : Hid _ := hr
  have hll' : zs.length = ys.length := by omega
  have HL : Hid (zs.length = ys.length) := hll'
  clear hr hll hll'
  have hz : (zs.length : Int) = (ys.length : Int) := by have := HL.out; omega
  go_enter Tryz.func40, Tryz.ntmps40
  go_wp2
  have HZ : Hid _ := hz
  clear hz
  go_loopw [5] (fun j wr => ∃ (i : Nat), i ≤ zs.length ∧ j = .int .i64 i ∧ Below w.heap.size w wr ∧ ∀ q (h1 : q < zs.length) (h2 : q < ys.length), q < i → zs[q] = ys[q]) (fun j _ => zs.length - (intOf j).toNat)
  case atStart => exact ⟨0, by omega, rfl, Below.refl _ _, fun q _ _ h => by omega⟩
  case round =>
    obtain ⟨i, hi, rfl, hbr, hall⟩ := hrel
    have HA : Hid _ := hall
    clear hall
    by_cases hlt : i < zs.length
    · have hlt' : i < ys.length := by have := HL.out; omega
      obtain ⟨b, off, b', off', x, y, ex, ey, ⟨rfl, k0⟩, rfl, m0⟩ := HC.out i hlt (by omega)
      have EX : Hid _ := ex
      have EY : Hid _ := ey
      clear ex ey
      replace k0 := cell_later hbr k0
      replace m0 := cell_later hbr m0
      have i0' : (0 : Int) ≤ (i : Int) := by omega
      have i1' : (i : Int) < (zs.length : Int) := by omega
      have i2' : (i : Int) < (ys.length : Int) := by omega
      by_cases hxy : x = y
      · subst hxy
        go_wp2_with fail
        refine wp_region_held (S := (fun wz => wz.cell? ⟨b, off + i, none⟩ = some (.int .i64 x) ∧ wz.cell? ⟨b', off' + i, none⟩ = some (.int .i64 x) ∧ Below w.heap.size w wz)) (by kernel_rfl) ?_
        change wpAnyH _ _ _ _ _ _ _ _ (World.drew _)
        have hHeld := LI1 ⟨k0, m0, hbr⟩
        refine' wpAnyH_take (i := 0) (v := _) rfl (by kernel_rfl) (by kernel_rfl) (by kernel_rfl) (fun _ _ _ h => h) (Or.inl ⟨by rfl, ?hy101⟩) hHeld ?hn101
        case hy101 => (intro wz hSw; (try dsimp only at hSw); go_simp; first | done | with_reducible rfl)
        try simp only [nrm, Act.put]
        refine' wpAnyH_take (i := 1) (v := _) rfl (by kernel_rfl) (by kernel_rfl) (by kernel_rfl) (fun _ _ _ h => h) (Or.inl ⟨by rfl, ?hy102⟩) hHeld ?hn102
        case hy102 => (intro wz hSw; (try dsimp only at hSw); go_simp; first | done | with_reducible rfl)
        try simp only [nrm, Act.put]
        refine' wpAnyH_take (i := 2) (v := _) rfl (by kernel_rfl) (by kernel_rfl) (by kernel_rfl) (fun _ _ _ h => h) (Or.inl ⟨by rfl, ?hy103⟩) hHeld ?hn103
        case hy103 => (intro wz hSw; (try dsimp only at hSw); go_simp; first | done | with_reducible rfl)
        try simp only [nrm, Act.put]
        refine' wpAnyH_take (i := 3) (v := (.int .i64 x)) rfl (by kernel_rfl) (by kernel_rfl) (by kernel_rfl) (fun _ _ _ h => h) (Or.inl ⟨by rfl, ?hy104⟩) hHeld ?hn104
        case hy104 => (intro wz hSw; obtain ⟨k0, m0, _⟩ := hSw; go_simp)
        try simp only [nrm, Act.put]
        refine' wpAnyH_take (i := 4) (v := _) rfl (by kernel_rfl) (by kernel_rfl) (by kernel_rfl) (fun _ _ _ h => h) (Or.inl ⟨by rfl, ?hy105⟩) hHeld ?hn105
        case hy105 => (intro wz hSw; (try dsimp only at hSw); go_simp; first | done | with_reducible rfl)
        try simp only [nrm, Act.put]
        refine' wpAnyH_take (i := 5) (v := _) rfl (by kernel_rfl) (by kernel_rfl) (by kernel_rfl) (fun _ _ _ h => h) (Or.inl ⟨by rfl, ?hy106⟩) hHeld ?hn106
        case hy106 => (intro wz hSw; (try dsimp only at hSw); go_simp; first | done | with_reducible rfl)
        try simp only [nrm, Act.put]
        refine' wpAnyH_take (i := 6) (v := _) rfl (by kernel_rfl) (by kernel_rfl) (by kernel_rfl) (fun _ _ _ h => h) (Or.inl ⟨by rfl, ?hy107⟩) hHeld ?hn107
        case hy107 => (intro wz hSw; (try dsimp only at hSw); go_simp; first | done | with_reducible rfl)
        try simp only [nrm, Act.put]
        refine' wpAnyH_take (i := 7) (v := (.int .i64 x)) rfl (by kernel_rfl) (by kernel_rfl) (by kernel_rfl) (fun _ _ _ h => h) (Or.inl ⟨by rfl, ?hy108⟩) hHeld ?hn108
        case hy108 => (intro wz hSw; obtain ⟨k0, m0, _⟩ := hSw; go_simp)
        try simp only [nrm, Act.put]
        refine' wpAnyH_take (i := 8) (v := (.bool false)) rfl (by kernel_rfl) (by kernel_rfl) (by kernel_rfl) (fun _ _ _ h => h) (Or.inl ⟨by rfl, ?hy109⟩) hHeld ?hn109
        case hy109 => (intro wz hSw; go_simp; first | done | simp)
        try simp only [nrm, Act.put]
        refine wpAnyH_done (by kernel_rfl) ?_ _
        have hB9 := hHeld.2.2
        clear hHeld
        have HB9 : Hid (Below w.heap.size w _) := hB9
        clear hB9
        go_wp2
        exact ⟨⟨i + 1, by omega, by simp, HB9.out, fun q h1 h2 hq => (by
          by_cases e : q = i
          · subst e; exact EX.out.trans EY.out.symm
          · exact HA.out q h1 h2 (by omega))⟩, by simp [intOf]; omega⟩
      · obtain rfl : false = r := by
          rw [← HR.out]; symm; simp; rintro rfl
          exact hxy (EX.out.symm.trans EY.out)
        have hne : ¬ x = y := hxy
        clear hxy
        go_wp2_with fail
        refine wp_region_held (S := (fun wz => wz.cell? ⟨b, off + i, none⟩ = some (.int .i64 x) ∧ wz.cell? ⟨b', off' + i, none⟩ = some (.int .i64 y) ∧ Below w.heap.size w wz)) (by kernel_rfl) ?_
        change wpAnyH _ _ _ _ _ _ _ _ (World.drew _)
        have hHeld := LI1 ⟨k0, m0, hbr⟩
        refine' wpAnyH_take (i := 0) (v := _) rfl (by kernel_rfl) (by kernel_rfl) (by kernel_rfl) (fun _ _ _ h => h) (Or.inl ⟨by rfl, ?hy110⟩) hHeld ?hn110
        case hy110 => (intro wz hSw; (try dsimp only at hSw); go_simp; first | done | with_reducible rfl)
        try simp only [nrm, Act.put]
        refine' wpAnyH_take (i := 1) (v := _) rfl (by kernel_rfl) (by kernel_rfl) (by kernel_rfl) (fun _ _ _ h => h) (Or.inl ⟨by rfl, ?hy111⟩) hHeld ?hn111
        case hy111 => (intro wz hSw; (try dsimp only at hSw); go_simp; first | done | with_reducible rfl)
        try simp only [nrm, Act.put]
        refine' wpAnyH_take (i := 2) (v := _) rfl (by kernel_rfl) (by kernel_rfl) (by kernel_rfl) (fun _ _ _ h => h) (Or.inl ⟨by rfl, ?hy112⟩) hHeld ?hn112
        case hy112 => (intro wz hSw; (try dsimp only at hSw); go_simp; first | done | with_reducible rfl)
        try simp only [nrm, Act.put]
        refine' wpAnyH_take (i := 3) (v := (.int .i64 x)) rfl (by kernel_rfl) (by kernel_rfl) (by kernel_rfl) (fun _ _ _ h => h) (Or.inl ⟨by rfl, ?hy113⟩) hHeld ?hn113
        case hy113 => (intro wz hSw; obtain ⟨k0, m0, _⟩ := hSw; go_simp)
        try simp only [nrm, Act.put]
        refine' wpAnyH_take (i := 4) (v := _) rfl (by kernel_rfl) (by kernel_rfl) (by kernel_rfl) (fun _ _ _ h => h) (Or.inl ⟨by rfl, ?hy114⟩) hHeld ?hn114
        case hy114 => (intro wz hSw; (try dsimp only at hSw); go_simp; first | done | with_reducible rfl)
        try simp only [nrm, Act.put]
        refine' wpAnyH_take (i := 5) (v := _) rfl (by kernel_rfl) (by kernel_rfl) (by kernel_rfl) (fun _ _ _ h => h) (Or.inl ⟨by rfl, ?hy115⟩) hHeld ?hn115
        case hy115 => (intro wz hSw; (try dsimp only at hSw); go_simp; first | done | with_reducible rfl)
        try simp only [nrm, Act.put]
        refine' wpAnyH_take (i := 6) (v := _) rfl (by kernel_rfl) (by kernel_rfl) (by kernel_rfl) (fun _ _ _ h => h) (Or.inl ⟨by rfl, ?hy116⟩) hHeld ?hn116
        case hy116 => (intro wz hSw; (try dsimp only at hSw); go_simp; first | done | with_reducible rfl)
        try simp only [nrm, Act.put]
        refine' wpAnyH_take (i := 7) (v := (.int .i64 y)) rfl (by kernel_rfl) (by kernel_rfl) (by kernel_rfl) (fun _ _ _ h => h) (Or.inl ⟨by rfl, ?hy117⟩) hHeld ?hn117
        case hy117 => (intro wz hSw; obtain ⟨k0, m0, _⟩ := hSw; go_simp)
        try simp only [nrm, Act.put]
        refine' wpAnyH_take (i := 8) (v := (.bool true)) rfl (by kernel_rfl) (by kernel_rfl) (by kernel_rfl) (fun _ _ _ h => h) (Or.inl ⟨by rfl, ?hy118⟩) hHeld ?hn118
        case hy118 => (intro wz hSw; go_simp; first | done | simp [hne])
        try simp only [nrm, Act.put]
        refine wpAnyH_done (by kernel_rfl) ?_ _
        have hB9 := hHeld.2.2
        clear hHeld
        have HB9 : Hid (Below w.heap.size w _) := hB9
        clear hB9
        go_wp2
        go_ret
        exact ⟨rfl, HB9.out⟩
    · have : i = zs.length := by omega
      subst this
      obtain rfl : true = r := by
        rw [← HR.out]; symm; simp
        exact rows_eq HL.out (fun q h1 h2 => HA.out q h1 h2 h1)
      have HB : Hid (Below w.heap.size w wr) := hbr
      clear hbr
      go_wp2
      go_ret
      exact ⟨rfl, HB.out⟩

end Go.Proofs.YthcgdhlemieboaaGreat
