/- Other numbers of some variables; numbers held against each other where they are told; and what that says of fine programs. -/
import Derived.Test.YtepacahfpbedoaaPrl
import Derived.Test.YtepacahfpbedoaaLcx
import Derived.Test.YtepacahfpbedoaaNin
import Derived.Test.YtepacahfpbedoaaKnw
import Derived.Test.YtepacahfpbedoaaDrs
namespace Go.Proofs.Ytepacahfpbedoaa
open Go.RowKit
set_option linter.unusedSimpArgs false
set_option linter.unusedVariables false
attribute [local go_sem] World.cell?_alloc_some

def othF (ks : List Bool) (n : Int) (k : Nat) (zs : List Int) : List Int := zs.mapIdx fun q z => if q < k ∧ ks.getD q true = false then Int.tmod (z + n * ((q : Int) + 1)) 10 else z
theorem othF_len (ks : List Bool) (n : Int) (k : Nat) (zs : List Int) : (othF ks n k zs).length = zs.length := by simp [othF]
theorem othF_get (ks : List Bool) (n : Int) (k : Nat) (zs : List Int) (q : Nat) (h : q < (othF ks n k zs).length) : (othF ks n k zs)[q] = if q < k ∧ ks.getD q true = false then Int.tmod (zs[q]'(by rw [othF_len] at h; exact h) + n * ((q : Int) + 1)) 10 else zs[q]'(by rw [othF_len] at h; exact h) := by simp [othF]
theorem othF_same {ks : List Bool} {n : Int} {i : Nat} {zs : List Int} (h : ks.getD i true = true) : othF ks n (i + 1) zs = othF ks n i zs := by
  refine List.ext_getElem (by rw [othF_len, othF_len]) (fun q h1 h2 => ?_)
  rw [othF_get, othF_get]
  by_cases e : q = i
  · subst e
    rw [if_neg (by rw [h]; simp), if_neg (by rw [h]; simp)]
  · by_cases e2 : q < i
    · simp [e2, show q < i + 1 by omega]
    · rw [if_neg (by intro ⟨a, _⟩; omega), if_neg (by intro ⟨a, _⟩; omega)]
theorem othF_set {ks : List Bool} {n : Int} {i : Nat} {zs : List Int} (hi : i < zs.length) (h : ks.getD i true = false) : othF ks n (i + 1) zs = (othF ks n i zs).set i (Int.tmod (zs[i] + n * ((i : Int) + 1)) 10) := by
  refine List.ext_getElem (by rw [List.length_set, othF_len, othF_len]) (fun q h1 h2 => ?_)
  rw [List.getElem_set]
  by_cases e : i = q
  · subst e
    rw [if_pos rfl, othF_get, if_pos ⟨by omega, h⟩]
  · rw [if_neg e, othF_get, othF_get]
    by_cases e2 : q < i
    · simp [e2, show q < i + 1 by omega]
    · rw [if_neg (by intro ⟨a, _⟩; omega), if_neg (by intro ⟨a, _⟩; omega)]
theorem othF_zero (ks : List Bool) (n : Int) (zs : List Int) : othF ks n 0 zs = zs := by
  refine List.ext_getElem (by rw [othF_len]) (fun q h1 h2 => ?_)
  rw [othF_get, if_neg (by intro ⟨a, _⟩; omega)]
theorem tmod_ten (x : Int) (h : 0 ≤ x) : 0 ≤ Int.tmod x 10 ∧ Int.tmod x 10 < 10 := by
  rw [Int.tmod_eq_emod_of_nonneg h]
  exact ⟨Int.emod_nonneg _ (by decide), Int.emod_lt_of_pos _ (by decide)⟩
theorem othF_ten (ks : List Bool) (n : Int) (k : Nat) (zs : List Int) (hn : 0 ≤ n) (ht : tenB zs = true) : tenB (othF ks n k zs) = true := by
  refine List.all_eq_true.2 (fun x hx => ?_)
  obtain ⟨q, hq, rfl⟩ := List.getElem_of_mem hx
  have hq' : q < zs.length := by rw [othF_len] at hq; exact hq
  have hz := ten_get zs q hq' ht
  rw [othF_get]
  split
  · have := tmod_ten (zs[q] + n * ((q : Int) + 1)) (by have : 0 ≤ n * ((q : Int) + 1) := Int.mul_nonneg hn (by omega); omega)
    unfold vIn; simp; exact this
  · unfold vIn; simp; exact hz

set_option maxHeartbeats 4000000 in
theorem lcOther_any {ad : Addr} {nc n cap : Nat} {kv : Value} {a1 : Option Addr} {zs : List Int} {ks : List Bool} {w : World} (hN : GRep (Value.int .i64) w (.slice (some ad) zs.length nc) zs) (hK : GRep Value.bool w kv ks) (ht : tenB zs = true) (hz1 : 0 < zs.length) (hz4 : zs.length ≤ 4) (hkl : ks.length = zs.length) (hn : (n : Int) ≤ 1048576) :
    Calls Try.prog 24 #[.slice (some ad) zs.length nc, kv, .slice a1 n cap] w fun e w' => ∃ v', e = .returned v' ∧ Below w.heap.size w w' ∧ GRep (Value.int .i64) w' v' (othF ks n zs.length zs) := by
  obtain ⟨i2, hk0, hj0, hj1, hj2⟩ := info_parts infoInt
  obtain ⟨ka, kc, rfl, hkc, hkm, hkcell⟩ := hK
  have HKC : Hid _ := hkcell
  have HT : Hid _ := ht
  have HKL : Hid _ := hkl
  have hkl' : (ks.length : Int) ≤ 4 := by omega
  have A8 : Below w.heap.size w (w.alloc (.cells #[] 3)) := (Below.refl _ _).alloc (Nat.le_refl _) _
  have HN8 : Hid (GRep (Value.int .i64) (w.alloc (.cells #[] 3)) (.slice (some ad) zs.length nc) zs) := hN.below A8
  have HA8 : Hid (Below w.heap.size w (w.alloc (.cells #[] 3))) := A8
  clear A8 hN hkcell ht hkl
  go_enter Try.func24, Try.ntmps24
  go_wp2_with (at_builtin; refine wpList_append_own_at _ rfl _ _ 38 rfl w.heap.size 3 i2 _ 1 8 Try.underlying38 hk0 hj0 hj1 hj2 rfl (by decide) _ _ _ rfl (made0 w 3 1) ad zs.length nc (zs.map (Value.int .i64)) rfl (by simp) (ints_news HN8.out) (ints_one zs) ?c3 ?c4 ?c5 ?_)
  case c3 => unfold maxLen; omega
  case c4 => omega
  case c5 => simp
  intro v8 w8 own8 grow8 _ at8
  obtain ⟨g, gc, rfl, hg, hgc, hgm⟩ := row_open own8 hz1
  have HB8 : Hid (Below w.heap.size w w8) := HA8.out.grown grow8 (by simp) (fun k hk => by cases hk; exact Nat.le_refl _)
  have HO8 : Hid _ := own8
  clear own8 grow8 at8 HN8 HA8
  go_wp2_with fail
  go_loopw [8] (fun j wr => ∃ (i : Nat), i ≤ zs.length ∧ j = .int .i64 i ∧ Below w.heap.size w wr ∧ wr.ownsRow w.heap.size 3 1 (.slice (some ⟨g, 0, none⟩) zs.length gc) zs.length ((othF ks n i zs).map (Value.int .i64))) (fun j _ => zs.length - (intOf j).toNat)
  case atStart => exact ⟨0, by omega, rfl, HB8.out, by rw [othF_zero]; exact HO8.out⟩
  case round =>
    obtain ⟨i, hi, rfl, hbr, hor⟩ := hrel
    clear HB8 HO8
    by_cases hlt : i < zs.length
    · have hlk : i < ks.length := by have := HKL.out; omega
      obtain ⟨kb, ko, rfl, q0⟩ := HKC.out i hlk
      replace q0 := cell_later hbr q0
      have i0' : (0 : Int) ≤ (i : Int) := by omega
      have i1' : (i : Int) < (zs.length : Int) := by omega
      have i2' : (i : Int) < (ks.length : Int) := by omega
      have HBR : Hid (Below w.heap.size w wr) := hbr
      have HOR : Hid (wr.ownsRow w.heap.size 3 1 (.slice (some ⟨g, 0, none⟩) zs.length gc) zs.length ((othF ks n i zs).map (Value.int .i64))) := hor
      obtain ⟨kk, hkk⟩ : ∃ kk, ks[i] = kk := ⟨_, rfl⟩
      have hkd : ks.getD i true = kk := by rw [← hkk]; simp [hlk]
      rw [hkk] at q0
      clear hkk hbr hor
      have HKD : Hid _ := hkd
      clear hkd
      cases kk
      · obtain ⟨u, hu, hf⟩ := row1_cell HOR.out hlt
        obtain ⟨z, hz⟩ : ∃ z, zs[i] = z := ⟨_, rfl⟩
        have hzr := ten_get zs i hlt HT.out
        rw [hz] at hzr
        have hu' : wr.cell? ⟨g, i, none⟩ = some (.int .i64 z) := by
          have := HOR.out.cells rfl i (.int .i64 z) (by rw [List.getElem?_map, List.getElem?_eq_getElem (by rw [othF_len]; exact hlt), othF_get, if_neg (by intro ⟨a, _⟩; omega), hz]; rfl)
          rwa [Addr.add_mid, Nat.zero_add] at this
        have HS : Hid (othF ks n (i + 1) zs = (othF ks n i zs).set i (Int.tmod (z + n * ((i : Int) + 1)) 10)) := (show _ by rw [← hz]; exact othF_set hlt HKD.out)
        have b1 : (n : Int) * ((i : Int) + 1) ≤ 1048576 * 5 := by
          have h1 : (n : Int) * ((i : Int) + 1) ≤ 1048576 * ((i : Int) + 1) := Int.mul_le_mul_of_nonneg_right hn (by omega)
          omega
        have b0 : 0 ≤ (n : Int) * ((i : Int) + 1) := Int.mul_nonneg (by omega) (by omega)
        have e1 := w64 ((i : Int) + 1) (by omega)
        have e2 := w64 ((n : Int) * ((i : Int) + 1)) (by omega)
        have e3 := w64 (z + (n : Int) * ((i : Int) + 1)) (by omega)
        have tm := tmod_ten (z + (n : Int) * ((i : Int) + 1)) (by omega)
        have e4 := w64 (Int.tmod (z + (n : Int) * ((i : Int) + 1)) 10) (by omega)
        clear hu hz b1 b0 tm
        have hzr0 := hzr.1
        go_wp2
        refine ⟨⟨i + 1, by omega, by simp, HBR.out.setCell hg _, ?_⟩, by simp [intOf]; omega⟩
        rw [HS.out, List.map_set]
        have := (World.ownsRow.stored HOR.out i (.int .i64 (Int.tmod (z + n * ((i : Int) + 1)) 10))).1
        exact this
      · go_wp2
        exact ⟨⟨i + 1, by omega, by simp, HBR.out, by rw [othF_same HKD.out]; exact HOR.out⟩, by simp [intOf]; omega⟩
    · have : i = zs.length := by omega
      subst this
      have HBR : Hid (Below w.heap.size w wr) := hbr
      have HOR : Hid (wr.ownsRow w.heap.size 3 1 (.slice (some ⟨g, 0, none⟩) zs.length gc) zs.length ((othF ks n zs.length zs).map (Value.int .i64))) := hor
      clear hbr hor
      obtain ⟨_, h1, _⟩ := row_gown (by simpa only [othF_len] using HOR.out : wr.ownsRow w.heap.size 3 1 (.slice (some ⟨g, 0, none⟩) zs.length gc) (othF ks n zs.length zs).length ((othF ks n zs.length zs).map (Value.int .i64)))
      have HGR : Hid (GRep (Value.int .i64) wr (.slice (some ⟨g, 0, none⟩) zs.length gc) (othF ks n zs.length zs)) := h1.rep
      clear h1
      go_wp2
      go_ret
      exact ⟨_, rfl, HBR.out, HGR.out⟩

set_option maxHeartbeats 4000000 in
theorem lcSameOf_true {v v' kv : Value} {zs ys : List Int} {ks : List Bool} {w : World} (h : GRep (Value.int .i64) w v zs) (h' : GRep (Value.int .i64) w v' ys) (hK : GRep Value.bool w kv ks) (hyl : ys.length = zs.length) (hkl : ks.length = zs.length) (hs : ∀ i (h1 : i < zs.length) (h2 : i < ys.length) (h3 : i < ks.length), ks[i] = true → zs[i] = ys[i]) :
    Calls Try.prog 26 #[v, v', kv] w fun e w' => e = .returned (.bool true) ∧ Below w.heap.size w w' := by
  obtain ⟨a, c, rfl, hlc, hcm, hcell⟩ := h
  obtain ⟨a', c', rfl, hlc', hcm', hcell'⟩ := h'
  obtain ⟨ka, kc, rfl, hkc, hkm, hkcell⟩ := hK
  have hlm : (zs.length : Int) ≤ 9223372036854775807 := by unfold maxLen at hcm; omega
  have HC : Hid (∀ i (hi : i < zs.length), ∃ b off b' off' b3 o3 x y kk, (a = some ⟨b, off, none⟩ ∧ w.cell? ⟨b, off + i, none⟩ = some (.int .i64 x)) ∧ (a' = some ⟨b', off', none⟩ ∧ w.cell? ⟨b', off' + i, none⟩ = some (.int .i64 y)) ∧ (ka = some ⟨b3, o3, none⟩ ∧ w.cell? ⟨b3, o3 + i, none⟩ = some (.bool kk)) ∧ (kk = true → x = y)) := (by
    intro i hi
    obtain ⟨b, off, ha, h0⟩ := hcell i hi
    obtain ⟨b', off', ha', h0'⟩ := hcell' i (by omega)
    obtain ⟨b3, o3, hb3, h3⟩ := hkcell i (by omega)
    exact ⟨b, off, b', off', b3, o3, _, _, _, ⟨ha, h0⟩, ⟨ha', h0'⟩, ⟨hb3, h3⟩, hs i hi (by omega) (by omega)⟩)
  have e1 : (ys.length : Int) = (zs.length : Int) := by omega
  have e2 : (ks.length : Int) = (zs.length : Int) := by omega
  clear hcell hcell' hkcell hs hyl hkl hlc hlc' hkc
  go_enter Try.func26, Try.ntmps26
  go_wp2_with fail
  go_loopw [7] (fun j wr => ∃ (i : Nat), i ≤ zs.length ∧ j = .int .i64 i ∧ Below w.heap.size w wr) (fun j _ => zs.length - (intOf j).toNat)
  case atStart => exact ⟨0, by omega, rfl, Below.refl _ _⟩
  case round =>
    obtain ⟨i, hi, rfl, hbr⟩ := hrel
    by_cases hlt : i < zs.length
    · obtain ⟨b, off, b', off', b3, o3, x, y, kk, ⟨rfl, k0⟩, ⟨rfl, m0⟩, ⟨rfl, q0⟩, hxy⟩ := HC.out i hlt
      have i0' : (0 : Int) ≤ (i : Int) := by omega
      have i1' : (i : Int) < (zs.length : Int) := by omega
      cases kk
      · clear hxy
        go_wp2_with fail
        refine wp_region_held (S := (fun wz => Below w.heap.size w wz)) (by kernel_rfl) ?_
        change wpAnyH _ _ _ _ _ _ _ _ (World.drew _)
        have hHeld := hbr.drew
        refine' wpAnyH_take (i := 0) (v := _) rfl (by kernel_rfl) (by kernel_rfl) (by kernel_rfl) (fun _ _ _ h => h) (Or.inl ⟨by rfl, ?hy316⟩) hHeld ?hn316
        case hy316 => (intro wz hSw; (try dsimp only at hSw); go_simp; first | done | with_reducible rfl)
        try simp only [List.getElem_toArray, List.getElem_cons_zero, List.getElem_cons_succ, Act.put, List.setIfInBounds_toArray, List.set_cons_zero, List.set_cons_succ]
        refine' wpAnyH_take (i := 1) (v := _) rfl (by kernel_rfl) (by kernel_rfl) (by kernel_rfl) (fun _ _ _ h => h) (Or.inl ⟨by rfl, ?hy317⟩) hHeld ?hn317
        case hy317 => (intro wz hSw; (try dsimp only at hSw); go_simp; first | done | with_reducible rfl)
        try simp only [List.getElem_toArray, List.getElem_cons_zero, List.getElem_cons_succ, Act.put, List.setIfInBounds_toArray, List.set_cons_zero, List.set_cons_succ]
        refine' wpAnyH_take (i := 2) (v := _) rfl (by kernel_rfl) (by kernel_rfl) (by kernel_rfl) (fun _ _ _ h => h) (Or.inl ⟨by rfl, ?hy318⟩) hHeld ?hn318
        case hy318 => (intro wz hSw; (try dsimp only at hSw); go_simp; first | done | with_reducible rfl)
        try simp only [List.getElem_toArray, List.getElem_cons_zero, List.getElem_cons_succ, Act.put, List.setIfInBounds_toArray, List.set_cons_zero, List.set_cons_succ]
        refine' wpAnyH_take (i := 3) (v := (.bool false)) rfl (by kernel_rfl) (by kernel_rfl) (by kernel_rfl) (fun _ _ _ h => h) (Or.inl ⟨by rfl, ?hy319⟩) hHeld ?hn319
        case hy319 => (intro wz hSw; have k := cell_later hSw q0; go_simp)
        try simp only [List.getElem_toArray, List.getElem_cons_zero, List.getElem_cons_succ, Act.put, List.setIfInBounds_toArray, List.set_cons_zero, List.set_cons_succ]
        refine' wpAnyH_take (i := 4) (v := _) rfl (by kernel_rfl) (by kernel_rfl) (by kernel_rfl) (fun _ _ _ h => h) (Or.inl ⟨by rfl, ?hy320⟩) hHeld ?hn320
        case hy320 => (intro wz hSw; (try dsimp only at hSw); go_simp; first | done | with_reducible rfl)
        try simp only [List.getElem_toArray, List.getElem_cons_zero, List.getElem_cons_succ, Act.put, List.setIfInBounds_toArray, List.set_cons_zero, List.set_cons_succ]
        refine' wpAnyH_take (i := 5) (v := undef) rfl (by kernel_rfl) (by kernel_rfl) (by kernel_rfl) (fun _ _ _ h => h) (Or.inr ⟨by rfl, rfl⟩) hHeld ?hn321
        try simp only [List.getElem_toArray, List.getElem_cons_zero, List.getElem_cons_succ, Act.put, List.setIfInBounds_toArray, List.set_cons_zero, List.set_cons_succ]
        refine' wpAnyH_take (i := 6) (v := undef) rfl (by kernel_rfl) (by kernel_rfl) (by kernel_rfl) (fun _ _ _ h => h) (Or.inr ⟨by rfl, rfl⟩) hHeld ?hn322
        try simp only [List.getElem_toArray, List.getElem_cons_zero, List.getElem_cons_succ, Act.put, List.setIfInBounds_toArray, List.set_cons_zero, List.set_cons_succ]
        refine' wpAnyH_take (i := 7) (v := undef) rfl (by kernel_rfl) (by kernel_rfl) (by kernel_rfl) (fun _ _ _ h => h) (Or.inr ⟨by rfl, rfl⟩) hHeld ?hn323
        try simp only [List.getElem_toArray, List.getElem_cons_zero, List.getElem_cons_succ, Act.put, List.setIfInBounds_toArray, List.set_cons_zero, List.set_cons_succ]
        refine' wpAnyH_take (i := 8) (v := undef) rfl (by kernel_rfl) (by kernel_rfl) (by kernel_rfl) (fun _ _ _ h => h) (Or.inr ⟨by rfl, rfl⟩) hHeld ?hn324
        try simp only [List.getElem_toArray, List.getElem_cons_zero, List.getElem_cons_succ, Act.put, List.setIfInBounds_toArray, List.set_cons_zero, List.set_cons_succ]
        refine' wpAnyH_take (i := 9) (v := undef) rfl (by kernel_rfl) (by kernel_rfl) (by kernel_rfl) (fun _ _ _ h => h) (Or.inr ⟨by rfl, rfl⟩) hHeld ?hn325
        try simp only [List.getElem_toArray, List.getElem_cons_zero, List.getElem_cons_succ, Act.put, List.setIfInBounds_toArray, List.set_cons_zero, List.set_cons_succ]
        refine' wpAnyH_take (i := 10) (v := undef) rfl (by kernel_rfl) (by kernel_rfl) (by kernel_rfl) (fun _ _ _ h => h) (Or.inr ⟨by rfl, rfl⟩) hHeld ?hn326
        try simp only [List.getElem_toArray, List.getElem_cons_zero, List.getElem_cons_succ, Act.put, List.setIfInBounds_toArray, List.set_cons_zero, List.set_cons_succ]
        refine' wpAnyH_take (i := 11) (v := undef) rfl (by kernel_rfl) (by kernel_rfl) (by kernel_rfl) (fun _ _ _ h => h) (Or.inr ⟨by rfl, rfl⟩) hHeld ?hn327
        try simp only [List.getElem_toArray, List.getElem_cons_zero, List.getElem_cons_succ, Act.put, List.setIfInBounds_toArray, List.set_cons_zero, List.set_cons_succ]
        refine' wpAnyH_take (i := 12) (v := undef) rfl (by kernel_rfl) (by kernel_rfl) (by kernel_rfl) (fun _ _ _ h => h) (Or.inr ⟨by rfl, rfl⟩) hHeld ?hn328
        try simp only [List.getElem_toArray, List.getElem_cons_zero, List.getElem_cons_succ, Act.put, List.setIfInBounds_toArray, List.set_cons_zero, List.set_cons_succ]
        refine' wpAnyH_take (i := 13) (v := undef) rfl (by kernel_rfl) (by kernel_rfl) (by kernel_rfl) (fun _ _ _ h => h) (Or.inr ⟨by rfl, rfl⟩) hHeld ?hn329
        try simp only [List.getElem_toArray, List.getElem_cons_zero, List.getElem_cons_succ, Act.put, List.setIfInBounds_toArray, List.set_cons_zero, List.set_cons_succ]
        refine' wpAnyH_take (i := 14) (v := _) rfl (by kernel_rfl) (by kernel_rfl) (by kernel_rfl) (fun _ _ _ h => h) (Or.inl ⟨by rfl, ?hy330⟩) hHeld ?hn330
        case hy330 => (intro wz hSw; (try dsimp only at hSw); go_simp; first | done | with_reducible rfl)
        try simp only [List.getElem_toArray, List.getElem_cons_zero, List.getElem_cons_succ, Act.put, List.setIfInBounds_toArray, List.set_cons_zero, List.set_cons_succ]
        refine wpAnyH_done (by kernel_rfl) ?_ _
        have HBq : Hid (Below w.heap.size w _) := hHeld
        clear hHeld
        go_wp2
        exact ⟨⟨i + 1, by omega, by simp, HBq.out⟩, by simp [intOf]; omega⟩
      · obtain rfl := hxy rfl
        go_wp2_with fail
        refine wp_region_held (S := (fun wz => Below w.heap.size w wz)) (by kernel_rfl) ?_
        change wpAnyH _ _ _ _ _ _ _ _ (World.drew _)
        have hHeld := hbr.drew
        refine' wpAnyH_take (i := 0) (v := _) rfl (by kernel_rfl) (by kernel_rfl) (by kernel_rfl) (fun _ _ _ h => h) (Or.inl ⟨by rfl, ?hy301⟩) hHeld ?hn301
        case hy301 => (intro wz hSw; (try dsimp only at hSw); go_simp; first | done | with_reducible rfl)
        try simp only [List.getElem_toArray, List.getElem_cons_zero, List.getElem_cons_succ, Act.put, List.setIfInBounds_toArray, List.set_cons_zero, List.set_cons_succ]
        refine' wpAnyH_take (i := 1) (v := _) rfl (by kernel_rfl) (by kernel_rfl) (by kernel_rfl) (fun _ _ _ h => h) (Or.inl ⟨by rfl, ?hy302⟩) hHeld ?hn302
        case hy302 => (intro wz hSw; (try dsimp only at hSw); go_simp; first | done | with_reducible rfl)
        try simp only [List.getElem_toArray, List.getElem_cons_zero, List.getElem_cons_succ, Act.put, List.setIfInBounds_toArray, List.set_cons_zero, List.set_cons_succ]
        refine' wpAnyH_take (i := 2) (v := _) rfl (by kernel_rfl) (by kernel_rfl) (by kernel_rfl) (fun _ _ _ h => h) (Or.inl ⟨by rfl, ?hy303⟩) hHeld ?hn303
        case hy303 => (intro wz hSw; (try dsimp only at hSw); go_simp; first | done | with_reducible rfl)
        try simp only [List.getElem_toArray, List.getElem_cons_zero, List.getElem_cons_succ, Act.put, List.setIfInBounds_toArray, List.set_cons_zero, List.set_cons_succ]
        refine' wpAnyH_take (i := 3) (v := (.bool true)) rfl (by kernel_rfl) (by kernel_rfl) (by kernel_rfl) (fun _ _ _ h => h) (Or.inl ⟨by rfl, ?hy304⟩) hHeld ?hn304
        case hy304 => (intro wz hSw; have k := cell_later hSw q0; go_simp)
        try simp only [List.getElem_toArray, List.getElem_cons_zero, List.getElem_cons_succ, Act.put, List.setIfInBounds_toArray, List.set_cons_zero, List.set_cons_succ]
        refine' wpAnyH_take (i := 4) (v := _) rfl (by kernel_rfl) (by kernel_rfl) (by kernel_rfl) (fun _ _ _ h => h) (Or.inl ⟨by rfl, ?hy305⟩) hHeld ?hn305
        case hy305 => (intro wz hSw; (try dsimp only at hSw); go_simp; first | done | with_reducible rfl)
        try simp only [List.getElem_toArray, List.getElem_cons_zero, List.getElem_cons_succ, Act.put, List.setIfInBounds_toArray, List.set_cons_zero, List.set_cons_succ]
        refine' wpAnyH_take (i := 5) (v := _) rfl (by kernel_rfl) (by kernel_rfl) (by kernel_rfl) (fun _ _ _ h => h) (Or.inl ⟨by rfl, ?hy306⟩) hHeld ?hn306
        case hy306 => (intro wz hSw; (try dsimp only at hSw); go_simp; first | done | with_reducible rfl)
        try simp only [List.getElem_toArray, List.getElem_cons_zero, List.getElem_cons_succ, Act.put, List.setIfInBounds_toArray, List.set_cons_zero, List.set_cons_succ]
        refine' wpAnyH_take (i := 6) (v := _) rfl (by kernel_rfl) (by kernel_rfl) (by kernel_rfl) (fun _ _ _ h => h) (Or.inl ⟨by rfl, ?hy307⟩) hHeld ?hn307
        case hy307 => (intro wz hSw; (try dsimp only at hSw); go_simp; first | done | with_reducible rfl)
        try simp only [List.getElem_toArray, List.getElem_cons_zero, List.getElem_cons_succ, Act.put, List.setIfInBounds_toArray, List.set_cons_zero, List.set_cons_succ]
        refine' wpAnyH_take (i := 7) (v := _) rfl (by kernel_rfl) (by kernel_rfl) (by kernel_rfl) (fun _ _ _ h => h) (Or.inl ⟨by rfl, ?hy308⟩) hHeld ?hn308
        case hy308 => (intro wz hSw; (try dsimp only at hSw); go_simp; first | done | with_reducible rfl)
        try simp only [List.getElem_toArray, List.getElem_cons_zero, List.getElem_cons_succ, Act.put, List.setIfInBounds_toArray, List.set_cons_zero, List.set_cons_succ]
        refine' wpAnyH_take (i := 8) (v := (.int .i64 x)) rfl (by kernel_rfl) (by kernel_rfl) (by kernel_rfl) (fun _ _ _ h => h) (Or.inl ⟨by rfl, ?hy309⟩) hHeld ?hn309
        case hy309 => (intro wz hSw; have k := cell_later hSw k0; go_simp)
        try simp only [List.getElem_toArray, List.getElem_cons_zero, List.getElem_cons_succ, Act.put, List.setIfInBounds_toArray, List.set_cons_zero, List.set_cons_succ]
        refine' wpAnyH_take (i := 9) (v := _) rfl (by kernel_rfl) (by kernel_rfl) (by kernel_rfl) (fun _ _ _ h => h) (Or.inl ⟨by rfl, ?hy310⟩) hHeld ?hn310
        case hy310 => (intro wz hSw; (try dsimp only at hSw); go_simp; first | done | with_reducible rfl)
        try simp only [List.getElem_toArray, List.getElem_cons_zero, List.getElem_cons_succ, Act.put, List.setIfInBounds_toArray, List.set_cons_zero, List.set_cons_succ]
        refine' wpAnyH_take (i := 10) (v := _) rfl (by kernel_rfl) (by kernel_rfl) (by kernel_rfl) (fun _ _ _ h => h) (Or.inl ⟨by rfl, ?hy311⟩) hHeld ?hn311
        case hy311 => (intro wz hSw; (try dsimp only at hSw); go_simp; first | done | with_reducible rfl)
        try simp only [List.getElem_toArray, List.getElem_cons_zero, List.getElem_cons_succ, Act.put, List.setIfInBounds_toArray, List.set_cons_zero, List.set_cons_succ]
        refine' wpAnyH_take (i := 11) (v := _) rfl (by kernel_rfl) (by kernel_rfl) (by kernel_rfl) (fun _ _ _ h => h) (Or.inl ⟨by rfl, ?hy312⟩) hHeld ?hn312
        case hy312 => (intro wz hSw; (try dsimp only at hSw); go_simp; first | done | with_reducible rfl)
        try simp only [List.getElem_toArray, List.getElem_cons_zero, List.getElem_cons_succ, Act.put, List.setIfInBounds_toArray, List.set_cons_zero, List.set_cons_succ]
        refine' wpAnyH_take (i := 12) (v := (.int .i64 x)) rfl (by kernel_rfl) (by kernel_rfl) (by kernel_rfl) (fun _ _ _ h => h) (Or.inl ⟨by rfl, ?hy313⟩) hHeld ?hn313
        case hy313 => (intro wz hSw; have k := cell_later hSw m0; go_simp)
        try simp only [List.getElem_toArray, List.getElem_cons_zero, List.getElem_cons_succ, Act.put, List.setIfInBounds_toArray, List.set_cons_zero, List.set_cons_succ]
        refine' wpAnyH_take (i := 13) (v := (.bool false)) rfl (by kernel_rfl) (by kernel_rfl) (by kernel_rfl) (fun _ _ _ h => h) (Or.inl ⟨by rfl, ?hy314⟩) hHeld ?hn314
        case hy314 => (intro wz hSw; go_simp; first | done | simp)
        try simp only [List.getElem_toArray, List.getElem_cons_zero, List.getElem_cons_succ, Act.put, List.setIfInBounds_toArray, List.set_cons_zero, List.set_cons_succ]
        refine' wpAnyH_take (i := 14) (v := _) rfl (by kernel_rfl) (by kernel_rfl) (by kernel_rfl) (fun _ _ _ h => h) (Or.inl ⟨by rfl, ?hy315⟩) hHeld ?hn315
        case hy315 => (intro wz hSw; (try dsimp only at hSw); go_simp; first | done | with_reducible rfl)
        try simp only [List.getElem_toArray, List.getElem_cons_zero, List.getElem_cons_succ, Act.put, List.setIfInBounds_toArray, List.set_cons_zero, List.set_cons_succ]
        refine wpAnyH_done (by kernel_rfl) ?_ _
        have HBq : Hid (Below w.heap.size w _) := hHeld
        clear hHeld
        go_wp2
        exact ⟨⟨i + 1, by omega, by simp, HBq.out⟩, by simp [intOf]; omega⟩
    · have : i = zs.length := by omega
      subst this
      have HB : Hid (Below w.heap.size w wr) := hbr
      clear hbr
      go_wp2
      go_ret
      exact ⟨rfl, HB.out⟩

theorem fine_of {ls : List (Int × Int)} {d : Nat} {T : Tr d} (hp : progB ls d T = true) (h : (whyR ls d T).2 = false) : AllF ls (prs ls d T topL) := by
  unfold whyR at h
  rw [if_pos hp] at h
  cases hb : badI ls (prs ls d T topL) with
  | some i => rw [hb] at h; cases h
  | none =>
    intro x hx
    unfold badI at hb
    have := (List.findIdx?_eq_none_iff.1 hb) x hx
    simpa using this
theorem kn_len (ls : List (Int × Int)) (h : Int) : (knowL ls h).length = ls.length ∧ (trustL ls h).length = ls.length := by simp [knowL, trustL]
theorem eqv_start {K : Int × Int → Bool} {ls : List (Int × Int)} {tl : Option Int} {zs : List Int} {ks : List Bool} {n : Int} (hk : ∀ i (h1 : i < ls.length), ks.getD i true = K ls[i]) (hz : zs.length = ls.length) : Eqv K ls tl ⟨zs, [], []⟩ ⟨othF ks n zs.length zs, [], []⟩ := by
  refine ⟨by simp [othF_len], fun i hi => ?_, rfl, fun _ _ => rfl⟩
  show zs.getD i 0 = (othF ks n zs.length zs).getD i 0
  by_cases hlt : i < zs.length
  · have hll : i < ls.length := by omega
    have e : lab ls (i : Int) = ls[i] := by unfold lab; rw [Int.toNat_natCast]; simp [hll]
    rw [e, ← hk i hll] at hi
    rw [List.getD_eq_getElem?_getD, List.getD_eq_getElem?_getD, List.getElem?_eq_getElem hlt, List.getElem?_eq_getElem (by rw [othF_len]; exact hlt), othF_get, if_neg (by rw [hi]; simp)]
  · rw [List.getD_eq_getElem?_getD, List.getD_eq_getElem?_getD, List.getElem?_eq_none (by omega), List.getElem?_eq_none (by rw [othF_len]; omega)]
theorem setV_eqv {K : Int × Int → Bool} {ls : List (Int × Int)} {ks : List Bool} (hk : ∀ i (h1 : i < ls.length), ks.getD i true = K ls[i]) (hkl : ks.length = ls.length) {ws us : List (Int × Int)} (h1 : ∀ x ∈ ws, vIn ls.length x.1 = true) (h2 : ∀ x ∈ us, vIn ls.length x.1 = true) (h : ws.filter (fun x => K (lab ls x.1)) = us.filter (fun x => K (lab ls x.1))) : setV ks ws = setV ks us := by
  have e : ∀ v : Int, vIn ls.length v = true → setB ks v = K (lab ls v) := by
    intro v hv
    unfold vIn at hv
    simp at hv
    have hll : v.toNat < ls.length := by omega
    unfold setB lab vIn
    rw [List.getD_eq_getElem?_getD, List.getD_eq_getElem?_getD, List.getElem?_eq_getElem hll, List.getElem?_eq_getElem (by omega)]
    have := hk v.toNat hll
    rw [List.getD_eq_getElem?_getD, List.getElem?_eq_getElem (by omega)] at this
    simp only [Option.getD_some] at this ⊢
    rw [this, decide_eq_true (by omega : (0 : Int) ≤ v), decide_eq_true (by omega : v < (ks.length : Int))]
    rfl
  unfold setV
  rw [List.filter_congr (fun x hx => e x.1 (h1 x hx)), List.filter_congr (fun x hx => e x.1 (h2 x hx))]
  exact h

end Go.Proofs.Ytepacahfpbedoaa
