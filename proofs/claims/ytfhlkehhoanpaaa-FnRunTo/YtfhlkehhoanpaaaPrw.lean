/- Rows of pairs of numbers: what was set, what was told. -/
import Derived.Test.YtfhlkehhoanpaaaVrw
namespace Go.Proofs.Ytfhlkehhoanpaaa
open Go.RowKit
set_option linter.unusedSimpArgs false
set_option linter.unusedVariables false
attribute [local go_sem] World.cell?_alloc_some

theorem szWriteS_any {lv : Value} {ls : List (Int × Int)} {left : Int} {w : World} (hL : LRep w lv ls) (h0 : 0 ≤ left) (h1 : left ≤ 1048576) :
    Calls Try.prog 93 #[lv, .int .i64 left] w fun e w' => e = .returned (.int .i64 (szR left ls.length)) ∧ Below w.heap.size w w' := by
  obtain ⟨la, lc, rfl, hlc, hcm, -⟩ := hL
  have hlm : (ls.length : Int) ≤ 9223372036854775807 := by unfold maxLen at hcm; omega
  have hwz := w64 (left - ls.length) (by omega)
  by_cases hlen : (ls.length : Int) ≤ left
  · rw [szR_pos hlen]
    have hnn : ¬ left - (ls.length : Int) < 0 := by omega
    have hn0 : 0 ≤ left - (ls.length : Int) := by omega
    go_enter Try.func93, Try.ntmps93
    go_wp2
    go_ret
    exact ⟨rfl, Below.refl _ _⟩
  · rw [szR_neg hlen]
    have hlt : left - (ls.length : Int) < 0 := by omega
    go_enter Try.func93, Try.ntmps93
    go_wp2
    go_ret
    exact ⟨rfl, Below.refl _ _⟩

theorem toWrite_any (k t : Int) (w : World) :
    Calls Try.prog 117 #[.agg #[.int .i64 k, .int .i64 t]] w fun e w' => e = .returned (.agg #[.int .i64 k, .int .i64 t]) ∧ Below w.heap.size w w' := by
  go_enter Try.func117, Try.ntmps117
  go_wp2
  refine bodyPost_ret (v := .agg #[.int .i64 k, .int .i64 t]) (by simp [results, Try.results117, go_sem]) rfl ⟨rfl, ?_⟩
  repeat' (first | exact Below.refl _ _ | assumption | (refine Below.drew ?_) | (refine Below.then ?_ (by assumption) ?_) | (refine Below.alloc ?_ ?_ _) | (refine Below.setCell ?_ ?_ _) | (simp; done) | (simp at *; omega) | omega)

theorem infoWrite : (Try.prog.info? 52).map (fun i => (i.zero, i.size, i.bytes)) = some (some (.agg #[.int .i64 0, .int .i64 0]), 2, 16) := by kernel_rfl

set_option maxHeartbeats 4000000 in
theorem toWriteS_any {lv : Value} {ls : List (Int × Int)} {w : World} (hL : LRep w lv ls) (hlen : ls.length ≤ 1048576) :
    Calls Try.prog 95 #[lv] w fun e w' => ∃ v' bs, e = .returned v' ∧ Below w.heap.size w w' ∧ LOwn w' v' ls bs ∧ (∀ b ∈ bs, w.heap.size ≤ b ∧ b < w'.heap.size) := by
  obtain ⟨i0, hi0, hz0, hz1, hz2⟩ := info_parts infoWrite
  obtain ⟨la, lc, rfl, hlc, hcm, hcell⟩ := hL
  have HC : Hid (∀ i (hi : i < ls.length), ∃ b off k t, ls[i] = (k, t) ∧ la = some ⟨b, off, none⟩ ∧ w.cell? ⟨b, off + i * 2, none⟩ = some (.int .i64 k) ∧ w.cell? ⟨b, off + i * 2 + 1, none⟩ = some (.int .i64 t)) := (show ∀ i (hi : i < ls.length), _ by
    intro i hi
    obtain ⟨b, off, ha, h0, h1⟩ := hcell i hi
    exact ⟨b, off, _, _, rfl, ha, h0, h1⟩)
  clear hcell
  go_enter Try.func95, Try.ntmps95
  go_wp2_with (at_make; refine wpList_make_full _ rfl _ _ 44 rfl w.heap.size 52 i0 _ 2 Try.underlying44 hi0 hz0 hz1 _ _ _ _ ls.length rfl rfl rfl rfl ?b2 ?b3 ?b4 ?_)
  case b2 => rw [hz2]; omega
  case b3 => unfold maxLen; omega
  case b4 => exact Nat.le_refl _
  intro w0 own0 grow0
  have t0 := row_there own0
  have B0 : Below w.heap.size w w0 := (Below.refl _ _).grown grow0 (Nat.le_refl _) (fun k hk => by cases hk)
  have s0 : w.heap.size < w0.heap.size := (own0.lt w.heap.size rfl).2
  clear own0 grow0
  go_wp2_with fail
  go_loopw [4] (fun j wr => ∃ (i : Nat), i ≤ ls.length ∧ j = .int .i64 i ∧ Below w.heap.size w wr ∧ w.heap.size < wr.heap.size ∧ wr.there w.heap.size 0 (ls.length * 2) ∧
      ∀ q (hq : q < ls.length), q < i → wr.rangeAt w.heap.size (q * 2) [.int .i64 ls[q].1, .int .i64 ls[q].2]) (fun j _ => ls.length - (intOf j).toNat)
  case atStart => exact ⟨0, by omega, rfl, B0, s0, t0, fun q _ h => by omega⟩
  case round =>
    obtain ⟨i, hi, rfl, hbr, hgs, hth, hown⟩ := hrel
    have hsz : w.heap.size ≤ wr.heap.size := hbr.size
    by_cases hlt : i < ls.length
    · obtain ⟨b, off, k, t, hx, rfl, k0, k1⟩ := HC.out i hlt
      replace k0 := cell_later hbr k0
      replace k1 := cell_later hbr k1
      have i0' : (0 : Int) ≤ (i : Int) := by omega
      have i1' : (i : Int) < (ls.length : Int) := by omega
      have HTH : Hid _ := hth
      have HOW : Hid _ := hown
      have HBR : Hid (Below w.heap.size w wr) := hbr
      clear hth hown hbr
      go_wp2_with fail
      go_at_call 117; refine (toWrite_any _ _ _).mono ?_
      rintro e w1 ⟨rfl, hb1⟩
      clear k0 k1
      have th1 : w1.there w.heap.size 0 (ls.length * 2) := there_same (hb1.block _ hgs) HTH.out
      have HT1 : Hid (w1.there w.heap.size (i * 2) 2) := (show w1.there w.heap.size (i * 2) 2 from fun j hj => by
        have := th1 (i * 2 + j) (by omega)
        rwa [Nat.zero_add] at this)
      have H1 : Hid _ := th1
      have HB1 : Hid (Below wr.heap.size wr w1) := hb1
      clear th1 hb1
      go_wp2_with (refine wpList_store_mid rfl _ _ _ rfl w.heap.size (i * 2) _ rfl rfl ?ht ?hi ?h1 ?_)
      case ht => exact HT1.out
      case hi => rw [hi0]; simp [hz1]
      case h1 => simp [Value.oneCell']
      have hb1 : Below wr.heap.size wr w1 := HB1.out
      have s1 : wr.heap.size ≤ w1.heap.size := hb1.size
      refine ⟨⟨i + 1, by omega, by simp, below_setCells (Nat.le_refl _) _ _ _ (Below.then HBR.out hb1 hsz), by rw [size_setCells]; omega, World.there_setCells H1.out _ _ _, ?_⟩, by simp [intOf]; omega⟩
      intro q hq hqi
      by_cases hqe : q = i
      · subst hqe
        rw [hx]; exact World.rangeAt_setCells_same w1 w.heap.size (q * 2) [.int .i64 k, .int .i64 t] HT1.out
      · exact World.rangeAt_setCells_apart (range_same (hb1.block _ hgs) (HOW.out q hq (by omega))) _ _ _ (.inr (.inl (by simp; omega)))
    · have hie : i = ls.length := by omega
      subst hie
      have HTH : Hid _ := hth
      have HOW : Hid _ := hown
      have HBR : Hid (Below w.heap.size w wr) := hbr
      clear hth hown hbr
      go_wp2
      go_ret
      by_cases hz : ls.length = 0
      · exact ⟨_, [], rfl, HBR.out, .inl ⟨hz, ⟨_, _, by rw [hz]; rfl, by unfold maxLen; omega⟩, rfl⟩, by simp⟩
      · refine ⟨_, [w.heap.size], rfl, HBR.out, .inr ⟨by omega, w.heap.size, ls.length, rfl, Nat.le_refl _, by unfold maxLen; omega, HTH.out, rfl, fun q hq => HOW.out q hq hq⟩, ?_⟩
        intro b hb
        obtain rfl : b = w.heap.size := by simpa using hb
        exact ⟨Nat.le_refl _, hgs⟩

theorem eqWrite_same (a b : Int) (w : World) :
    Calls Try.prog 97 #[.agg #[.int .i64 a, .int .i64 b], .agg #[.int .i64 a, .int .i64 b]] w fun e w' => e = .returned (.bool true) ∧ Below w.heap.size w w' := by
  go_enter Try.func97, Try.ntmps97
  go_wp2
  go_ret
  refine ⟨rfl, ?_⟩
  repeat' (first | exact Below.refl _ _ | assumption | (refine Below.drew ?_) | (refine Below.then ?_ (by assumption) ?_) | (refine Below.alloc ?_ ?_ _) | (refine Below.setCell ?_ ?_ _) | (simp; done) | (simp at *; omega) | omega)

set_option maxHeartbeats 2000000 in
theorem eqWriteS_same {lv lv' : Value} {ls : List (Int × Int)} {w : World} (h : LRep w lv ls) (h' : LRep w lv' ls) :
    Calls Try.prog 57 #[lv, lv'] w fun e w' => e = .returned (.bool true) ∧ Below w.heap.size w w' := by
  obtain ⟨a, c, rfl, hlc, hcm, hcell⟩ := h
  obtain ⟨a', c', rfl, hlc', hcm', hcell'⟩ := h'
  have hlm : (ls.length : Int) ≤ 9223372036854775807 := by unfold maxLen at hcm; omega
  have HC : Hid (∀ i (hi : i < ls.length), ∃ b off b' off' k t, (a = some ⟨b, off, none⟩ ∧ w.cell? ⟨b, off + i * 2, none⟩ = some (.int .i64 k) ∧ w.cell? ⟨b, off + i * 2 + 1, none⟩ = some (.int .i64 t)) ∧ (a' = some ⟨b', off', none⟩ ∧ w.cell? ⟨b', off' + i * 2, none⟩ = some (.int .i64 k) ∧ w.cell? ⟨b', off' + i * 2 + 1, none⟩ = some (.int .i64 t))) := (show ∀ i (hi : i < ls.length), _ by
    intro i hi
    obtain ⟨b, off, ha, h0, h1⟩ := hcell i hi
    obtain ⟨b', off', ha', h0', h1'⟩ := hcell' i hi
    exact ⟨b, off, b', off', _, _, ⟨ha, h0, h1⟩, ha', h0', h1'⟩)
  clear hcell hcell'
  go_enter Try.func57, Try.ntmps57
  go_wp2
  go_loopw [5] (fun j wr => ∃ (i : Nat), i ≤ ls.length ∧ j = .int .i64 i ∧ Below w.heap.size w wr) (fun j _ => ls.length - (intOf j).toNat)
  case atStart => exact ⟨0, by omega, rfl, Below.refl _ _⟩
  case round =>
    obtain ⟨i, hi, rfl, hbr⟩ := hrel
    by_cases hlt : i < ls.length
    · obtain ⟨b, off, b', off', k, t, ⟨rfl, k0, k1⟩, rfl, m0, m1⟩ := HC.out i hlt
      replace k0 := cell_later hbr k0
      replace k1 := cell_later hbr k1
      replace m0 := cell_later hbr m0
      replace m1 := cell_later hbr m1
      have i0' : (0 : Int) ≤ (i : Int) := by omega
      have i1' : (i : Int) < (ls.length : Int) := by omega
      go_wp2_with fail
      refine wp_region_held (S := (fun wz => (wz.cell? ⟨b, off + i * 2, none⟩ = some (.int .i64 k) ∧ wz.cell? ⟨b, off + i * 2 + 1, none⟩ = some (.int .i64 t)) ∧ (wz.cell? ⟨b', off' + i * 2, none⟩ = some (.int .i64 k) ∧ wz.cell? ⟨b', off' + i * 2 + 1, none⟩ = some (.int .i64 t)) ∧ Below w.heap.size w wz)) (by kernel_rfl) ?_
      change wpAnyH _ _ _ _ _ _ _ _ (World.drew _)
      have hHeld := SL1 ⟨⟨k0, k1⟩, ⟨m0, m1⟩, hbr⟩
      refine' wpAnyH_take (i := 0) (v := _) rfl (by kernel_rfl) (by kernel_rfl) (by kernel_rfl) (fun _ _ _ h => h) (Or.inl ⟨by rfl, ?hy10⟩) hHeld ?hn10
      case hy10 => (intro wz hSw; (try dsimp only at hSw); go_simp; first | done | with_reducible rfl)
      try simp only [List.getElem_toArray, List.getElem_cons_zero, List.getElem_cons_succ, Act.put, List.setIfInBounds_toArray, List.set_cons_zero, List.set_cons_succ]
      refine' wpAnyH_take (i := 1) (v := _) rfl (by kernel_rfl) (by kernel_rfl) (by kernel_rfl) (fun _ _ _ h => h) (Or.inl ⟨by rfl, ?hy11⟩) hHeld ?hn11
      case hy11 => (intro wz hSw; (try dsimp only at hSw); go_simp; first | done | with_reducible rfl)
      try simp only [List.getElem_toArray, List.getElem_cons_zero, List.getElem_cons_succ, Act.put, List.setIfInBounds_toArray, List.set_cons_zero, List.set_cons_succ]
      refine' wpAnyH_take (i := 2) (v := _) rfl (by kernel_rfl) (by kernel_rfl) (by kernel_rfl) (fun _ _ _ h => h) (Or.inl ⟨by rfl, ?hy12⟩) hHeld ?hn12
      case hy12 => (intro wz hSw; (try dsimp only at hSw); go_simp; first | done | with_reducible rfl)
      try simp only [List.getElem_toArray, List.getElem_cons_zero, List.getElem_cons_succ, Act.put, List.setIfInBounds_toArray, List.set_cons_zero, List.set_cons_succ]
      refine' wpAnyH_take (i := 3) (v := .agg #[.int .i64 k, .int .i64 t]) rfl (by kernel_rfl) (by kernel_rfl) (by kernel_rfl) (fun _ _ _ h => h) (Or.inl ⟨by rfl, ?hy13⟩) hHeld ?hn13
      case hy13 => (intro wz hSw; obtain ⟨⟨k0, k1⟩, _, _⟩ := hSw; go_simp)
      try simp only [List.getElem_toArray, List.getElem_cons_zero, List.getElem_cons_succ, Act.put, List.setIfInBounds_toArray, List.set_cons_zero, List.set_cons_succ]
      refine' wpAnyH_take (i := 4) (v := _) rfl (by kernel_rfl) (by kernel_rfl) (by kernel_rfl) (fun _ _ _ h => h) (Or.inl ⟨by rfl, ?hy14⟩) hHeld ?hn14
      case hy14 => (intro wz hSw; (try dsimp only at hSw); go_simp; first | done | with_reducible rfl)
      try simp only [List.getElem_toArray, List.getElem_cons_zero, List.getElem_cons_succ, Act.put, List.setIfInBounds_toArray, List.set_cons_zero, List.set_cons_succ]
      refine' wpAnyH_take (i := 5) (v := _) rfl (by kernel_rfl) (by kernel_rfl) (by kernel_rfl) (fun _ _ _ h => h) (Or.inl ⟨by rfl, ?hy15⟩) hHeld ?hn15
      case hy15 => (intro wz hSw; (try dsimp only at hSw); go_simp; first | done | with_reducible rfl)
      try simp only [List.getElem_toArray, List.getElem_cons_zero, List.getElem_cons_succ, Act.put, List.setIfInBounds_toArray, List.set_cons_zero, List.set_cons_succ]
      refine' wpAnyH_take (i := 6) (v := _) rfl (by kernel_rfl) (by kernel_rfl) (by kernel_rfl) (fun _ _ _ h => h) (Or.inl ⟨by rfl, ?hy16⟩) hHeld ?hn16
      case hy16 => (intro wz hSw; (try dsimp only at hSw); go_simp; first | done | with_reducible rfl)
      try simp only [List.getElem_toArray, List.getElem_cons_zero, List.getElem_cons_succ, Act.put, List.setIfInBounds_toArray, List.set_cons_zero, List.set_cons_succ]
      refine' wpAnyH_take (i := 7) (v := .agg #[.int .i64 k, .int .i64 t]) rfl (by kernel_rfl) (by kernel_rfl) (by kernel_rfl) (fun _ _ _ h => h) (Or.inl ⟨by rfl, ?hy17⟩) hHeld ?hn17
      case hy17 => (intro wz hSw; obtain ⟨_, ⟨k0, k1⟩, _⟩ := hSw; go_simp)
      try simp only [List.getElem_toArray, List.getElem_cons_zero, List.getElem_cons_succ, Act.put, List.setIfInBounds_toArray, List.set_cons_zero, List.set_cons_succ]
      refine wpAnyH_ready (rs := [8]) (by kernel_rfl) (by simp) ?_
      refine AllReadyH.cons rfl (fun K hK => ?_) AllReadyH.nil
      go_simp
      refine (eqWrite_same _ _ _).mono ?_; rintro e' w9 ⟨rfl, hbx⟩
      refine hK.out _ _ (SL2 hHeld hbx) (fun hHeld => ?_)
      clear hK K
      refine' wpAnyH_take (i := 9) (v := _) rfl (by kernel_rfl) (by kernel_rfl) (by kernel_rfl) (fun _ _ _ h => h) (Or.inl ⟨by rfl, ?hy18⟩) hHeld ?hn18
      case hy18 => (intro wz hSw; (try dsimp only at hSw); go_simp; first | done | with_reducible rfl)
      try simp only [List.getElem_toArray, List.getElem_cons_zero, List.getElem_cons_succ, Act.put, List.setIfInBounds_toArray, List.set_cons_zero, List.set_cons_succ]
      refine wpAnyH_done (by kernel_rfl) ?_ _
      obtain ⟨_, _, hB9⟩ := hHeld
      go_wp2
      exact ⟨⟨i + 1, by omega, by simp, hB9⟩, by simp [intOf]; omega⟩
    · have : i = ls.length := by omega
      subst this
      have HB : Hid (Below w.heap.size w wr) := hbr
      clear hbr
      go_wp2
      go_ret
      exact ⟨rfl, HB.out⟩

theorem szSaidS_any {lv : Value} {ls : List (Int × Int)} {left : Int} {w : World} (hL : LRep w lv ls) (h0 : 0 ≤ left) (h1 : left ≤ 1048576) :
    Calls Try.prog 94 #[lv, .int .i64 left] w fun e w' => e = .returned (.int .i64 (szR left ls.length)) ∧ Below w.heap.size w w' := by
  obtain ⟨la, lc, rfl, hlc, hcm, -⟩ := hL
  have hlm : (ls.length : Int) ≤ 9223372036854775807 := by unfold maxLen at hcm; omega
  have hwz := w64 (left - ls.length) (by omega)
  by_cases hlen : (ls.length : Int) ≤ left
  · rw [szR_pos hlen]
    have hnn : ¬ left - (ls.length : Int) < 0 := by omega
    have hn0 : 0 ≤ left - (ls.length : Int) := by omega
    go_enter Try.func94, Try.ntmps94
    go_wp2
    go_ret
    exact ⟨rfl, Below.refl _ _⟩
  · rw [szR_neg hlen]
    have hlt : left - (ls.length : Int) < 0 := by omega
    go_enter Try.func94, Try.ntmps94
    go_wp2
    go_ret
    exact ⟨rfl, Below.refl _ _⟩

theorem toSaid_any (k t : Int) (w : World) :
    Calls Try.prog 118 #[.agg #[.int .i64 k, .int .i64 t]] w fun e w' => e = .returned (.agg #[.int .i64 k, .int .i64 t]) ∧ Below w.heap.size w w' := by
  go_enter Try.func118, Try.ntmps118
  go_wp2
  refine bodyPost_ret (v := .agg #[.int .i64 k, .int .i64 t]) (by simp [results, Try.results118, go_sem]) rfl ⟨rfl, ?_⟩
  repeat' (first | exact Below.refl _ _ | assumption | (refine Below.drew ?_) | (refine Below.then ?_ (by assumption) ?_) | (refine Below.alloc ?_ ?_ _) | (refine Below.setCell ?_ ?_ _) | (simp; done) | (simp at *; omega) | omega)

theorem infoSaid : (Try.prog.info? 111).map (fun i => (i.zero, i.size, i.bytes)) = some (some (.agg #[.int .i64 0, .int .i64 0]), 2, 16) := by kernel_rfl

set_option maxHeartbeats 4000000 in
theorem toSaidS_any {lv : Value} {ls : List (Int × Int)} {w : World} (hL : LRep w lv ls) (hlen : ls.length ≤ 1048576) :
    Calls Try.prog 96 #[lv] w fun e w' => ∃ v' bs, e = .returned v' ∧ Below w.heap.size w w' ∧ LOwn w' v' ls bs ∧ (∀ b ∈ bs, w.heap.size ≤ b ∧ b < w'.heap.size) := by
  obtain ⟨i0, hi0, hz0, hz1, hz2⟩ := info_parts infoSaid
  obtain ⟨la, lc, rfl, hlc, hcm, hcell⟩ := hL
  have HC : Hid (∀ i (hi : i < ls.length), ∃ b off k t, ls[i] = (k, t) ∧ la = some ⟨b, off, none⟩ ∧ w.cell? ⟨b, off + i * 2, none⟩ = some (.int .i64 k) ∧ w.cell? ⟨b, off + i * 2 + 1, none⟩ = some (.int .i64 t)) := (show ∀ i (hi : i < ls.length), _ by
    intro i hi
    obtain ⟨b, off, ha, h0, h1⟩ := hcell i hi
    exact ⟨b, off, _, _, rfl, ha, h0, h1⟩)
  clear hcell
  go_enter Try.func96, Try.ntmps96
  go_wp2_with (at_make; refine wpList_make_full _ rfl _ _ 45 rfl w.heap.size 111 i0 _ 2 Try.underlying45 hi0 hz0 hz1 _ _ _ _ ls.length rfl rfl rfl rfl ?b2 ?b3 ?b4 ?_)
  case b2 => rw [hz2]; omega
  case b3 => unfold maxLen; omega
  case b4 => exact Nat.le_refl _
  intro w0 own0 grow0
  have t0 := row_there own0
  have B0 : Below w.heap.size w w0 := (Below.refl _ _).grown grow0 (Nat.le_refl _) (fun k hk => by cases hk)
  have s0 : w.heap.size < w0.heap.size := (own0.lt w.heap.size rfl).2
  clear own0 grow0
  go_wp2_with fail
  go_loopw [4] (fun j wr => ∃ (i : Nat), i ≤ ls.length ∧ j = .int .i64 i ∧ Below w.heap.size w wr ∧ w.heap.size < wr.heap.size ∧ wr.there w.heap.size 0 (ls.length * 2) ∧
      ∀ q (hq : q < ls.length), q < i → wr.rangeAt w.heap.size (q * 2) [.int .i64 ls[q].1, .int .i64 ls[q].2]) (fun j _ => ls.length - (intOf j).toNat)
  case atStart => exact ⟨0, by omega, rfl, B0, s0, t0, fun q _ h => by omega⟩
  case round =>
    obtain ⟨i, hi, rfl, hbr, hgs, hth, hown⟩ := hrel
    have hsz : w.heap.size ≤ wr.heap.size := hbr.size
    by_cases hlt : i < ls.length
    · obtain ⟨b, off, k, t, hx, rfl, k0, k1⟩ := HC.out i hlt
      replace k0 := cell_later hbr k0
      replace k1 := cell_later hbr k1
      have i0' : (0 : Int) ≤ (i : Int) := by omega
      have i1' : (i : Int) < (ls.length : Int) := by omega
      have HTH : Hid _ := hth
      have HOW : Hid _ := hown
      have HBR : Hid (Below w.heap.size w wr) := hbr
      clear hth hown hbr
      go_wp2_with fail
      go_at_call 118; refine (toSaid_any _ _ _).mono ?_
      rintro e w1 ⟨rfl, hb1⟩
      clear k0 k1
      have th1 : w1.there w.heap.size 0 (ls.length * 2) := there_same (hb1.block _ hgs) HTH.out
      have HT1 : Hid (w1.there w.heap.size (i * 2) 2) := (show w1.there w.heap.size (i * 2) 2 from fun j hj => by
        have := th1 (i * 2 + j) (by omega)
        rwa [Nat.zero_add] at this)
      have H1 : Hid _ := th1
      have HB1 : Hid (Below wr.heap.size wr w1) := hb1
      clear th1 hb1
      go_wp2_with (refine wpList_store_mid rfl _ _ _ rfl w.heap.size (i * 2) _ rfl rfl ?ht ?hi ?h1 ?_)
      case ht => exact HT1.out
      case hi => rw [hi0]; simp [hz1]
      case h1 => simp [Value.oneCell']
      have hb1 : Below wr.heap.size wr w1 := HB1.out
      have s1 : wr.heap.size ≤ w1.heap.size := hb1.size
      refine ⟨⟨i + 1, by omega, by simp, below_setCells (Nat.le_refl _) _ _ _ (Below.then HBR.out hb1 hsz), by rw [size_setCells]; omega, World.there_setCells H1.out _ _ _, ?_⟩, by simp [intOf]; omega⟩
      intro q hq hqi
      by_cases hqe : q = i
      · subst hqe
        rw [hx]; exact World.rangeAt_setCells_same w1 w.heap.size (q * 2) [.int .i64 k, .int .i64 t] HT1.out
      · exact World.rangeAt_setCells_apart (range_same (hb1.block _ hgs) (HOW.out q hq (by omega))) _ _ _ (.inr (.inl (by simp; omega)))
    · have hie : i = ls.length := by omega
      subst hie
      have HTH : Hid _ := hth
      have HOW : Hid _ := hown
      have HBR : Hid (Below w.heap.size w wr) := hbr
      clear hth hown hbr
      go_wp2
      go_ret
      by_cases hz : ls.length = 0
      · exact ⟨_, [], rfl, HBR.out, .inl ⟨hz, ⟨_, _, by rw [hz]; rfl, by unfold maxLen; omega⟩, rfl⟩, by simp⟩
      · refine ⟨_, [w.heap.size], rfl, HBR.out, .inr ⟨by omega, w.heap.size, ls.length, rfl, Nat.le_refl _, by unfold maxLen; omega, HTH.out, rfl, fun q hq => HOW.out q hq hq⟩, ?_⟩
        intro b hb
        obtain rfl : b = w.heap.size := by simpa using hb
        exact ⟨Nat.le_refl _, hgs⟩

theorem eqSaid_same (a b : Int) (w : World) :
    Calls Try.prog 116 #[.agg #[.int .i64 a, .int .i64 b], .agg #[.int .i64 a, .int .i64 b]] w fun e w' => e = .returned (.bool true) ∧ Below w.heap.size w w' := by
  go_enter Try.func116, Try.ntmps116
  go_wp2
  go_ret
  refine ⟨rfl, ?_⟩
  repeat' (first | exact Below.refl _ _ | assumption | (refine Below.drew ?_) | (refine Below.then ?_ (by assumption) ?_) | (refine Below.alloc ?_ ?_ _) | (refine Below.setCell ?_ ?_ _) | (simp; done) | (simp at *; omega) | omega)

set_option maxHeartbeats 2000000 in
theorem eqSaidS_same {lv lv' : Value} {ls : List (Int × Int)} {w : World} (h : LRep w lv ls) (h' : LRep w lv' ls) :
    Calls Try.prog 87 #[lv, lv'] w fun e w' => e = .returned (.bool true) ∧ Below w.heap.size w w' := by
  obtain ⟨a, c, rfl, hlc, hcm, hcell⟩ := h
  obtain ⟨a', c', rfl, hlc', hcm', hcell'⟩ := h'
  have hlm : (ls.length : Int) ≤ 9223372036854775807 := by unfold maxLen at hcm; omega
  have HC : Hid (∀ i (hi : i < ls.length), ∃ b off b' off' k t, (a = some ⟨b, off, none⟩ ∧ w.cell? ⟨b, off + i * 2, none⟩ = some (.int .i64 k) ∧ w.cell? ⟨b, off + i * 2 + 1, none⟩ = some (.int .i64 t)) ∧ (a' = some ⟨b', off', none⟩ ∧ w.cell? ⟨b', off' + i * 2, none⟩ = some (.int .i64 k) ∧ w.cell? ⟨b', off' + i * 2 + 1, none⟩ = some (.int .i64 t))) := (show ∀ i (hi : i < ls.length), _ by
    intro i hi
    obtain ⟨b, off, ha, h0, h1⟩ := hcell i hi
    obtain ⟨b', off', ha', h0', h1'⟩ := hcell' i hi
    exact ⟨b, off, b', off', _, _, ⟨ha, h0, h1⟩, ha', h0', h1'⟩)
  clear hcell hcell'
  go_enter Try.func87, Try.ntmps87
  go_wp2
  go_loopw [5] (fun j wr => ∃ (i : Nat), i ≤ ls.length ∧ j = .int .i64 i ∧ Below w.heap.size w wr) (fun j _ => ls.length - (intOf j).toNat)
  case atStart => exact ⟨0, by omega, rfl, Below.refl _ _⟩
  case round =>
    obtain ⟨i, hi, rfl, hbr⟩ := hrel
    by_cases hlt : i < ls.length
    · obtain ⟨b, off, b', off', k, t, ⟨rfl, k0, k1⟩, rfl, m0, m1⟩ := HC.out i hlt
      replace k0 := cell_later hbr k0
      replace k1 := cell_later hbr k1
      replace m0 := cell_later hbr m0
      replace m1 := cell_later hbr m1
      have i0' : (0 : Int) ≤ (i : Int) := by omega
      have i1' : (i : Int) < (ls.length : Int) := by omega
      go_wp2_with fail
      refine wp_region_held (S := (fun wz => (wz.cell? ⟨b, off + i * 2, none⟩ = some (.int .i64 k) ∧ wz.cell? ⟨b, off + i * 2 + 1, none⟩ = some (.int .i64 t)) ∧ (wz.cell? ⟨b', off' + i * 2, none⟩ = some (.int .i64 k) ∧ wz.cell? ⟨b', off' + i * 2 + 1, none⟩ = some (.int .i64 t)) ∧ Below w.heap.size w wz)) (by kernel_rfl) ?_
      change wpAnyH _ _ _ _ _ _ _ _ (World.drew _)
      have hHeld := SL1 ⟨⟨k0, k1⟩, ⟨m0, m1⟩, hbr⟩
      refine' wpAnyH_take (i := 0) (v := _) rfl (by kernel_rfl) (by kernel_rfl) (by kernel_rfl) (fun _ _ _ h => h) (Or.inl ⟨by rfl, ?hy10⟩) hHeld ?hn10
      case hy10 => (intro wz hSw; (try dsimp only at hSw); go_simp; first | done | with_reducible rfl)
      try simp only [List.getElem_toArray, List.getElem_cons_zero, List.getElem_cons_succ, Act.put, List.setIfInBounds_toArray, List.set_cons_zero, List.set_cons_succ]
      refine' wpAnyH_take (i := 1) (v := _) rfl (by kernel_rfl) (by kernel_rfl) (by kernel_rfl) (fun _ _ _ h => h) (Or.inl ⟨by rfl, ?hy11⟩) hHeld ?hn11
      case hy11 => (intro wz hSw; (try dsimp only at hSw); go_simp; first | done | with_reducible rfl)
      try simp only [List.getElem_toArray, List.getElem_cons_zero, List.getElem_cons_succ, Act.put, List.setIfInBounds_toArray, List.set_cons_zero, List.set_cons_succ]
      refine' wpAnyH_take (i := 2) (v := _) rfl (by kernel_rfl) (by kernel_rfl) (by kernel_rfl) (fun _ _ _ h => h) (Or.inl ⟨by rfl, ?hy12⟩) hHeld ?hn12
      case hy12 => (intro wz hSw; (try dsimp only at hSw); go_simp; first | done | with_reducible rfl)
      try simp only [List.getElem_toArray, List.getElem_cons_zero, List.getElem_cons_succ, Act.put, List.setIfInBounds_toArray, List.set_cons_zero, List.set_cons_succ]
      refine' wpAnyH_take (i := 3) (v := .agg #[.int .i64 k, .int .i64 t]) rfl (by kernel_rfl) (by kernel_rfl) (by kernel_rfl) (fun _ _ _ h => h) (Or.inl ⟨by rfl, ?hy13⟩) hHeld ?hn13
      case hy13 => (intro wz hSw; obtain ⟨⟨k0, k1⟩, _, _⟩ := hSw; go_simp)
      try simp only [List.getElem_toArray, List.getElem_cons_zero, List.getElem_cons_succ, Act.put, List.setIfInBounds_toArray, List.set_cons_zero, List.set_cons_succ]
      refine' wpAnyH_take (i := 4) (v := _) rfl (by kernel_rfl) (by kernel_rfl) (by kernel_rfl) (fun _ _ _ h => h) (Or.inl ⟨by rfl, ?hy14⟩) hHeld ?hn14
      case hy14 => (intro wz hSw; (try dsimp only at hSw); go_simp; first | done | with_reducible rfl)
      try simp only [List.getElem_toArray, List.getElem_cons_zero, List.getElem_cons_succ, Act.put, List.setIfInBounds_toArray, List.set_cons_zero, List.set_cons_succ]
      refine' wpAnyH_take (i := 5) (v := _) rfl (by kernel_rfl) (by kernel_rfl) (by kernel_rfl) (fun _ _ _ h => h) (Or.inl ⟨by rfl, ?hy15⟩) hHeld ?hn15
      case hy15 => (intro wz hSw; (try dsimp only at hSw); go_simp; first | done | with_reducible rfl)
      try simp only [List.getElem_toArray, List.getElem_cons_zero, List.getElem_cons_succ, Act.put, List.setIfInBounds_toArray, List.set_cons_zero, List.set_cons_succ]
      refine' wpAnyH_take (i := 6) (v := _) rfl (by kernel_rfl) (by kernel_rfl) (by kernel_rfl) (fun _ _ _ h => h) (Or.inl ⟨by rfl, ?hy16⟩) hHeld ?hn16
      case hy16 => (intro wz hSw; (try dsimp only at hSw); go_simp; first | done | with_reducible rfl)
      try simp only [List.getElem_toArray, List.getElem_cons_zero, List.getElem_cons_succ, Act.put, List.setIfInBounds_toArray, List.set_cons_zero, List.set_cons_succ]
      refine' wpAnyH_take (i := 7) (v := .agg #[.int .i64 k, .int .i64 t]) rfl (by kernel_rfl) (by kernel_rfl) (by kernel_rfl) (fun _ _ _ h => h) (Or.inl ⟨by rfl, ?hy17⟩) hHeld ?hn17
      case hy17 => (intro wz hSw; obtain ⟨_, ⟨k0, k1⟩, _⟩ := hSw; go_simp)
      try simp only [List.getElem_toArray, List.getElem_cons_zero, List.getElem_cons_succ, Act.put, List.setIfInBounds_toArray, List.set_cons_zero, List.set_cons_succ]
      refine wpAnyH_ready (rs := [8]) (by kernel_rfl) (by simp) ?_
      refine AllReadyH.cons rfl (fun K hK => ?_) AllReadyH.nil
      go_simp
      refine (eqSaid_same _ _ _).mono ?_; rintro e' w9 ⟨rfl, hbx⟩
      refine hK.out _ _ (SL2 hHeld hbx) (fun hHeld => ?_)
      clear hK K
      refine' wpAnyH_take (i := 9) (v := _) rfl (by kernel_rfl) (by kernel_rfl) (by kernel_rfl) (fun _ _ _ h => h) (Or.inl ⟨by rfl, ?hy18⟩) hHeld ?hn18
      case hy18 => (intro wz hSw; (try dsimp only at hSw); go_simp; first | done | with_reducible rfl)
      try simp only [List.getElem_toArray, List.getElem_cons_zero, List.getElem_cons_succ, Act.put, List.setIfInBounds_toArray, List.set_cons_zero, List.set_cons_succ]
      refine wpAnyH_done (by kernel_rfl) ?_ _
      obtain ⟨_, _, hB9⟩ := hHeld
      go_wp2
      exact ⟨⟨i + 1, by omega, by simp, hB9⟩, by simp [intOf]; omega⟩
    · have : i = ls.length := by omega
      subst this
      have HB : Hid (Below w.heap.size w wr) := hbr
      clear hbr
      go_wp2
      go_ret
      exact ⟨rfl, HB.out⟩

end Go.Proofs.Ytfhlkehhoanpaaa
