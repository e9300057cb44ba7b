/- If no rows are told that sway there are none: the law, walked. -/
import Derived.Test.YtlhfbhidgabgbaaLsLem
import Derived.Test.YtlhfbhidgabgbaaLsLef
import Derived.Test.YtlhfbhidgabgbaaLsLcx
import Derived.Deep.RegionHeld3
import Derived.Deep.DrawnRows
namespace Go.Proofs.Ytlhfbhidgabgbaa
open Go.RowKit
set_option linter.unusedSimpArgs false
set_option linter.unusedVariables false
attribute [local go_sem ↓] Go.wp_at_zero Go.wp_at_succ
attribute [local go_sem] World.cell?_alloc_some


/-- Two rows of numbers that grow, and a row of truths that stays. -/
structure TwoG (w0 wr : World) (kv : Value) (ks : List Bool) (bs : List Nat) (f fc g gc : Nat) (xs ys : List Int) : Prop where
  bel : Below w0.heap.size w0 wr
  a : wr.ownsRow w0.heap.size 3 1 (.slice (some ⟨f, 0, none⟩) xs.length fc) xs.length (xs.map (Value.int .i64))
  b : wr.ownsRow w0.heap.size 3 1 (.slice (some ⟨g, 0, none⟩) ys.length gc) ys.length (ys.map (Value.int .i64))
  ne : f ≠ g
  k : GOwn Value.bool wr kv ks bs
  kf : ∀ b ∈ bs, b ≠ f ∧ b ≠ g ∧ b < wr.heap.size
theorem slice_own {w : World} {B : Nat} {e : TypeId} {v : Value} {n : Nat} {xs : List Value} (h : w.ownsRow B e 1 v n xs) (hn : v ≠ .slice none 0 0) : ∃ g c, v = .slice (some ⟨g, 0, none⟩) n c := by
  obtain ⟨_, ⟨q, _⟩ | ⟨g, c, _, q, _⟩⟩ := id h
  · exact (hn q).elim
  · exact ⟨g, c, q⟩
theorem TwoG.appA {w0 wr w1 : World} {kv v' : Value} {ks : List Bool} {bs : List Nat} {f fc g gc : Nat} {xs ys : List Int} {x : Int} {o : Obj} (h : TwoG w0 wr kv ks bs f fc g gc xs ys)
    (own : w1.ownsRow w0.heap.size 3 1 v' (xs.length + 1) (xs.map (Value.int .i64) ++ [.int .i64 x])) (grow : (wr.alloc o).grownBy w1 (some f)) (nn : v' ≠ .slice none 0 0) (hat : v'.ownBlock = some f ∨ v'.ownBlock = some (wr.heap.size + 1)) :
    ∃ f' fc', v' = .slice (some ⟨f', 0, none⟩) (xs ++ [x]).length fc' ∧ TwoG w0 w1 kv ks bs f' fc' g gc (xs ++ [x]) ys := by
  obtain ⟨f', fc', rfl⟩ := slice_own own nn
  have hf := World.ownsRow.lt h.a f rfl
  have hg := World.ownsRow.lt h.b g rfl
  have kp : ∀ b, b < wr.heap.size → b ≠ f → w1.heap[b]? = wr.heap[b]? := fun b hb hne => (grow.block b (by simp; omega) (fun e => hne (by cases e; rfl))).trans (Below.heap_alloc _ _ _ hb)
  have hs : wr.heap.size + 1 ≤ w1.heap.size := by have := grow.size; simpa using this
  have hf' : f' = f ∨ f' = wr.heap.size + 1 := by
    rcases hat with e | e
    · left; simpa [Value.ownBlock] using e
    · right; simpa [Value.ownBlock] using e
  refine ⟨f', fc', by simp, (h.bel.alloc h.bel.size o).grown grow (by have := h.bel.size; simp; omega) (fun j e => by cases e; exact hf.1), ?_, rowg_frame h.b (fun b e => by
    obtain rfl : g = b := by simpa [Value.ownBlock] using e
    exact kp _ hg.2 (fun q => h.ne q.symm)), ?_, h.k.frame (fun b hb => kp b (h.kf b hb).2.2 (h.kf b hb).1), fun b hb => ⟨?_, (h.kf b hb).2.1, by have := (h.kf b hb).2.2; omega⟩⟩
  · have e : (xs ++ [x]).length = xs.length + 1 := by simp
    rw [e, List.map_append]; exact own
  · rcases hf' with rfl | rfl
    · exact h.ne
    · omega
  · have := h.kf b hb
    rcases hf' with rfl | rfl
    · exact this.1
    · omega
theorem TwoG.swap {w0 wr : World} {kv : Value} {ks : List Bool} {bs : List Nat} {f fc g gc : Nat} {xs ys : List Int} (h : TwoG w0 wr kv ks bs f fc g gc xs ys) : TwoG w0 wr kv ks bs g gc f fc ys xs :=
  ⟨h.bel, h.b, h.a, h.ne.symm, h.k, fun b hb => ⟨(h.kf b hb).2.1, (h.kf b hb).1, (h.kf b hb).2.2⟩⟩
theorem TwoG.setB {w0 wr : World} {kv : Value} {ks : List Bool} {bs : List Nat} {f fc g gc : Nat} {xs ys : List Int} (h : TwoG w0 wr kv ks bs f fc g gc xs ys) (i : Nat) (x : Int) :
    TwoG w0 (wr.setCell ⟨g, i, none⟩ (.int .i64 x)) kv ks bs f fc g gc xs (ys.set i x) := by
  have hf := World.ownsRow.lt h.a f rfl
  have hg := World.ownsRow.lt h.b g rfl
  have kp : ∀ b, b ≠ g → (wr.setCell ⟨g, i, none⟩ (.int .i64 x)).heap[b]? = wr.heap[b]? := fun b hne => Below.heap_setCell _ _ _ _ hne
  refine ⟨h.bel.setCell hg.1 _, rowg_frame h.a (fun b e => by
    obtain rfl : f = b := by simpa [Value.ownBlock] using e
    exact kp _ h.ne), ?_, h.ne, h.k.frame (fun b hb => kp b (h.kf b hb).2.1), fun b hb => by have := h.kf b hb; simpa using this⟩
  have e : (ys.set i x).length = ys.length := by simp
  rw [e, List.map_set]
  exact (World.ownsRow.stored h.b i (.int .i64 x)).1
theorem TwoG.cellB {w0 wr : World} {kv : Value} {ks : List Bool} {bs : List Nat} {f fc g gc : Nat} {xs ys : List Int} (h : TwoG w0 wr kv ks bs f fc g gc xs ys) (i : Nat) (hi : i < ys.length) : wr.cell? ⟨g, i, none⟩ = some (.int .i64 ys[i]) ∧ wr.frozen? ⟨g, i, none⟩ = false := by
  have := h.b.cells rfl i (.int .i64 ys[i]) (by rw [List.getElem?_map, List.getElem?_eq_getElem hi]; rfl)
  rw [Addr.add_mid, Nat.zero_add] at this
  exact ⟨this, World.ownsRow.frozenAt h.b i⟩
theorem set_snoc (ys : List Int) (y x : Int) : (ys ++ [y]).set ys.length x = ys ++ [x] := by
  induction ys with
  | nil => rfl
  | cons z ys ih => simp
theorem tm01 {a : Int} (h : 0 ≤ a) : a.tmod 2 = 0 ∨ a.tmod 2 = 1 := by
  rw [Int.tmod_eq_emod_of_nonneg h]; omega
/-- What is said of two rows so far. -/
structure Sf (ks : List Bool) (j : Nat) (xs ys : List Int) : Prop where
  lx : xs.length = j
  ly : ys.length = j
  bx : ∀ x ∈ xs, x = 0 ∨ x = 1
  by' : ∀ x ∈ ys, x = 0 ∨ x = 1
  sm : ∀ q, q < j → ks.getD q false = true → xs.getD q 0 = ys.getD q 0
theorem Sf.step {ks : List Bool} {j : Nat} {xs ys : List Int} (h : Sf ks j xs ys) {x y : Int} (hx : x = 0 ∨ x = 1) (hy : y = 0 ∨ y = 1) (hk : ks.getD j false = true → x = y) : Sf ks (j + 1) (xs ++ [x]) (ys ++ [y]) := by
  refine ⟨by simp [h.lx], by simp [h.ly], fun z hz => ?_, fun z hz => ?_, fun q hq hkq => ?_⟩
  · rcases List.mem_append.1 hz with hz | hz
    · exact h.bx z hz
    · obtain rfl : z = x := by simpa using hz
      exact hx
  · rcases List.mem_append.1 hz with hz | hz
    · exact h.by' z hz
    · obtain rfl : z = y := by simpa using hz
      exact hy
  · by_cases e : q < j
    · have := h.sm q e hkq
      rw [List.getD_eq_getElem?_getD, List.getD_eq_getElem?_getD] at this ⊢
      rw [List.getElem?_append_left (by rw [h.lx]; exact e), List.getElem?_append_left (by rw [h.ly]; exact e)]
      exact this
    · obtain rfl : q = j := by omega
      rw [List.getD_eq_getElem?_getD, List.getD_eq_getElem?_getD, List.getElem?_append_right (by rw [h.lx]; exact Nat.le_refl _), List.getElem?_append_right (by rw [h.ly]; exact Nat.le_refl _), h.lx, h.ly]
      simpa using hk hkq
theorem Sf.same {ks : List Bool} {j : Nat} {xs ys : List Int} (h : Sf ks j xs ys) (hk : ks.length = j) : sameB ks xs ys = true := sameB_yes (fun q hq hkq => h.sm q (by omega) hkq)

set_option maxHeartbeats 16000000 in
set_option maxRecDepth 20000 in
theorem fnSwayAll_walk (a0 : Option Addr) (len0 cap0 : Nat) (z0 : List Int) (a1 : Option Addr) (len1 cap1 : Nat) (z1 : List Int) (w : World) (h0 : IsRow .u8 w a0 len0 cap0 z0) (h1 : IsRow .u8 w a1 len1 cap1 z1) :
    Calls Try.prog 7 #[.slice a0 len0 cap0, .slice a1 len1 cap1] w fun e w' => e = .returned (.bool true) ∧ Below w.heap.size w w' := by
  by_cases hl0 : (1048576 : Int) < (len0 : Int)
  · go_enter Try.func7, Try.ntmps7
    go_wp2
    go_ret
    exact ⟨rfl, Below.refl _ _⟩
  by_cases hl1 : (1048576 : Int) < (len1 : Int)
  · go_enter Try.func7, Try.ntmps7
    go_wp2
    go_ret
    exact ⟨rfl, Below.refl _ _⟩
  have C1 : Hid _ := drawSwayOf_any w a0 len0 cap0 z0 h0
  clear h0 h1
  go_enter Try.func7, Try.ntmps7
  go_wp2_with fail
  go_at_call 23; refine Calls.mono C1.out ?_
  rintro e w1 ⟨la, sa, lc, sc, ls, d, l, h, rfl, hL, hR, ll, cn, hb1⟩
  have HB1 : Hid (Below w.heap.size w w1) := hb1
  have A2 : Below w1.heap.size w1 (w1.alloc (.cells #[.slice la ls.length lc, .slice sa (ln (d + 1) (l : List (Pay × Tr d × Tr d))) sc] 26)) := (Below.refl _ _).alloc (Nat.le_refl _) _
  obtain ⟨w2, hw2⟩ : ∃ W, w1.alloc (.cells #[.slice la ls.length lc, .slice sa (ln (d + 1) (l : List (Pay × Tr d × Tr d))) sc] 26) = W := ⟨_, rfl⟩
  have p0 : w2.cell? ⟨w1.heap.size, 0, none⟩ = some (.slice la ls.length lc) := by rw [← hw2]; simp
  have p1 : w2.cell? ⟨w1.heap.size, 1, none⟩ = some (.slice sa (ln (d + 1) (l : List (Pay × Tr d × Tr d))) sc) := by rw [← hw2]; simp
  rw [hw2] at A2
  have HW2 : Hid _ := hw2
  have K2 : Hid _ := sSwayOf_any h (hL.below A2) (hR.below A2) (by omega)
  have HRR : Hid (∀ wz, Below w1.heap.size w1 wz → LRep wz (.slice la ls.length lc) ls ∧ Rep wz (d + 1) (.slice sa (ln (d + 1) (l : List (Pay × Tr d × Tr d))) sc) (l : List (Pay × Tr d × Tr d))) := (show ∀ wz, _ from fun wz hb => ⟨hL.below hb, hR.below hb⟩)
  have HA2 : Hid (Below w1.heap.size w1 w2) := A2
  obtain ⟨okb, hok⟩ : ∃ x, (progB ls (d + 1) (l : List (Pay × Tr d × Tr d)) && vIn 3 h) = x := ⟨_, rfl⟩
  obtain ⟨P, hP⟩ : ∃ x, (swayP ls (d + 1) (l : List (Pay × Tr d × Tr d)) (trustL ls h)) = x := ⟨_, rfl⟩
  rw [hok, hP] at K2
  have HOK : Hid _ := hok
  have HPP : Hid _ := hP
  have HLL : Hid (1 ≤ ls.length ∧ ls.length ≤ 8) := ll
  have HCN : Hid (cnt (d + 1) (l : List (Pay × Tr d × Tr d)) ≤ 400) := cn
  clear hok hP hw2 A2 hL hR hb1 C1 ll cn
  go_wp2_with fail
  rw [HW2.out]
  clear HW2
  (try go_at_call 24); refine Calls.mono K2.out ?_
  rintro e w3 ⟨o, va, vb, hF, rfl, hb3, ga, gb⟩
  obtain ⟨va1, va2, va3⟩ := id ga
  obtain ⟨vb1, vb2, vb3⟩ := id gb
  obtain rfl := va3.1
  obtain rfl := vb3.1
  have HF : Hid _ := hF
  have HB3 : Hid (Below w2.heap.size w2 w3) := hb3
  have HGAB : Hid (∀ wz, Below w3.heap.size w3 wz → GRep (Value.int .i64) wz (.slice va1 (rowsO ls.length o).1.length va2) (rowsO ls.length o).1 ∧ GRep (Value.int .i64) wz (.slice vb1 (rowsO ls.length o).2.length vb2) (rowsO ls.length o).2) := (show ∀ wz, _ from fun wz hb => ⟨ga.below hb, gb.below hb⟩)
  have HB13 : Hid (Below w1.heap.size w1 w3) := Below.then HA2.out hb3 HA2.out.size
  have K4 : Hid _ := swayOf_any h (HRR.out _ HB13.out).1 (HRR.out _ HB13.out).2
  rw [HOK.out, HPP.out] at K4
  replace p0 := cell_later hb3 p0
  replace p1 := cell_later hb3 p1
  clear hb3 ga gb va3 vb3 hF K2
  go_wp2_with fail
  (try go_at_call 25); refine Calls.mono K4.out ?_
  rintro e w5 ⟨o', vc, vd, hF', rfl, hb5, hT⟩
  obtain rfl : o = o' := by
    have h1 := HF.out
    cases okb
    · exact (h1 : o = none).trans (hF' : o' = none).symm
    · exact FirstP.same h1 hF'
  obtain ⟨vc1, vc2, rfl⟩ := one_len hT.a
  obtain ⟨vd1, vd2, rfl⟩ := one_len hT.b
  obtain ⟨_, gc, -⟩ := row_gown hT.a
  obtain ⟨_, gd, -⟩ := row_gown hT.b
  replace gc := gc.rep
  replace gd := gd.rep
  have HB35 : Hid (Below w3.heap.size w3 w5) := hb5
  have HB15 : Hid (Below w1.heap.size w1 w5) := Below.then HB13.out hb5 HB13.out.size
  have HB05 : Hid (Below w.heap.size w w5) := Below.then HB1.out HB15.out HB1.out.size
  have HALL : Hid (∀ wz, Below w5.heap.size w5 wz → (LRep wz (.slice la ls.length lc) ls ∧ Rep wz (d + 1) (.slice sa (ln (d + 1) (l : List (Pay × Tr d × Tr d))) sc) (l : List (Pay × Tr d × Tr d))) ∧ (GRep (Value.int .i64) wz (.slice vc1 (rowsO ls.length o).1.length vc2) (rowsO ls.length o).1 ∧ GRep (Value.int .i64) wz (.slice vd1 (rowsO ls.length o).2.length vd2) (rowsO ls.length o).2) ∧ wz.cell? ⟨w1.heap.size, 0, none⟩ = some (.slice la ls.length lc) ∧ wz.cell? ⟨w1.heap.size, 1, none⟩ = some (.slice sa (ln (d + 1) (l : List (Pay × Tr d × Tr d))) sc) ∧ Below w.heap.size w wz) :=
    (show ∀ wz, _ from fun wz hb => ⟨HRR.out wz (Below.then HB15.out hb HB15.out.size), ⟨gc.below hb, gd.below hb⟩, cell_later hb (cell_later hb5 p0), cell_later hb (cell_later hb5 p1), Below.then HB05.out hb HB05.out.size⟩)
  have KC : Hid (∀ wz, Below w5.heap.size w5 wz → Calls Try.prog 15 #[.slice vc1 (rowsO ls.length o).1.length vc2, .slice va1 (rowsO ls.length o).1.length va2] wz fun e w' => e = .returned (.bool true) ∧ Below wz.heap.size wz w') := (show ∀ wz, _ from fun wz hb => by
    have := lcInts_any (gc.below hb) (HGAB.out wz (Below.then HB35.out hb HB35.out.size)).1
    rwa [decide_eq_true rfl] at this)
  have KD : Hid (∀ wz, Below w5.heap.size w5 wz → Calls Try.prog 15 #[.slice vd1 (rowsO ls.length o).2.length vd2, .slice vb1 (rowsO ls.length o).2.length vb2] wz fun e w' => e = .returned (.bool true) ∧ Below wz.heap.size wz w') := (show ∀ wz, _ from fun wz hb => by
    have := lcInts_any (gd.below hb) (HGAB.out wz (Below.then HB35.out hb HB35.out.size)).2
    rwa [decide_eq_true rfl] at this)
  have B55 : Hid (Below w5.heap.size w5 w5) := Below.refl _ _
  clear hF' hb5 hT gc gd K4 HGAB HB35 HB15 HB13 HA2 HB3 HB1 HRR p0 p1
  go_wp2_with fail
  (try go_at_call 15); refine Calls.mono (KC.out _ B55.out) ?_
  rintro e wa ⟨rfl, hb_wa⟩
  have B_wa : Hid (Below w5.heap.size w5 wa) := Below.then B55.out hb_wa B55.out.size
  clear hb_wa
  go_wp2_with fail
  (try go_at_call 15); refine Calls.mono (KD.out _ B_wa.out) ?_
  rintro e wb ⟨rfl, hb_wb⟩
  have B_wb : Hid (Below w5.heap.size w5 wb) := Below.then B_wa.out hb_wb B_wa.out.size
  clear hb_wb
  cases o with
  | some ki =>
    go_wp2_with fail
    (try go_at_call 15); refine Calls.mono (KC.out _ B_wb.out) ?_
    rintro e wy2 ⟨rfl, hb_wy2⟩
    have B_wy2 : Hid (Below w5.heap.size w5 wy2) := Below.then B_wb.out hb_wy2 B_wb.out.size
    clear hb_wy2
    go_wp2_with fail
    (try go_at_call 15); refine Calls.mono (KD.out _ B_wy2.out) ?_
    rintro e wz2 ⟨rfl, hb_wz2⟩
    have B_wz2 : Hid (Below w5.heap.size w5 wz2) := Below.then B_wy2.out hb_wz2 B_wy2.out.size
    clear hb_wz2
    go_wp2
    go_ret
    exact ⟨rfl, (HALL.out _ B_wz2.out).2.2.2.2⟩
  | none =>
    obtain ⟨pb, hpb⟩ : ∃ x, progB ls (d + 1) (l : List (Pay × Tr d × Tr d)) = x := ⟨_, rfl⟩
    have KP : Hid _ := sProgOk_any (HALL.out _ B_wb.out).1.1 (HALL.out _ B_wb.out).1.2 (by have := HCN.out; omega)
    rw [hpb] at KP
    have HPB : Hid _ := hpb
    obtain ⟨-, -, p0, p1, -⟩ := HALL.out _ B_wb.out
    clear hpb
    go_wp2_with fail
    (try go_at_call 21); refine Calls.mono KP.out ?_
    rintro e wc ⟨rfl, hb_wc⟩
    have B_wc : Hid (Below w5.heap.size w5 wc) := Below.then B_wb.out hb_wc B_wb.out.size
    clear hb_wc p0 p1 KP
    cases pb
    · go_wp2_with fail
      (try go_at_call 15); refine Calls.mono (KC.out _ B_wc.out) ?_
      rintro e wy3 ⟨rfl, hb_wy3⟩
      have B_wy3 : Hid (Below w5.heap.size w5 wy3) := Below.then B_wc.out hb_wy3 B_wc.out.size
      clear hb_wy3
      go_wp2_with fail
      (try go_at_call 15); refine Calls.mono (KD.out _ B_wy3.out) ?_
      rintro e wz3 ⟨rfl, hb_wz3⟩
      have B_wz3 : Hid (Below w5.heap.size w5 wz3) := Below.then B_wy3.out hb_wz3 B_wy3.out.size
      clear hb_wz3
      go_wp2
      go_ret
      exact ⟨rfl, (HALL.out _ B_wz3.out).2.2.2.2⟩
    by_cases h0 : h < 0
    · go_wp2_with fail
      (try go_at_call 15); refine Calls.mono (KC.out _ B_wc.out) ?_
      rintro e wy4 ⟨rfl, hb_wy4⟩
      have B_wy4 : Hid (Below w5.heap.size w5 wy4) := Below.then B_wc.out hb_wy4 B_wc.out.size
      clear hb_wy4
      go_wp2_with fail
      (try go_at_call 15); refine Calls.mono (KD.out _ B_wy4.out) ?_
      rintro e wz4 ⟨rfl, hb_wz4⟩
      have B_wz4 : Hid (Below w5.heap.size w5 wz4) := Below.then B_wy4.out hb_wz4 B_wy4.out.size
      clear hb_wz4
      go_wp2
      go_ret
      exact ⟨rfl, (HALL.out _ B_wz4.out).2.2.2.2⟩
    by_cases h3 : 3 ≤ h
    · go_wp2_with fail
      (try go_at_call 15); refine Calls.mono (KC.out _ B_wc.out) ?_
      rintro e wy5 ⟨rfl, hb_wy5⟩
      have B_wy5 : Hid (Below w5.heap.size w5 wy5) := Below.then B_wc.out hb_wy5 B_wc.out.size
      clear hb_wy5
      go_wp2_with fail
      (try go_at_call 15); refine Calls.mono (KD.out _ B_wy5.out) ?_
      rintro e wz5 ⟨rfl, hb_wz5⟩
      have B_wz5 : Hid (Below w5.heap.size w5 wz5) := Below.then B_wy5.out hb_wz5 B_wy5.out.size
      clear hb_wz5
      go_wp2
      go_ret
      exact ⟨rfl, (HALL.out _ B_wz5.out).2.2.2.2⟩
    have HPR : Hid (progB ls (d + 1) (l : List (Pay × Tr d × Tr d)) = true ∧ ls.length ≤ 4) := by
      have h2 := HPB.out
      unfold progB at h2
      simp only [Bool.and_eq_true_iff, decide_eq_true_eq] at h2
      exact ⟨HPB.out, by omega⟩
    have HNO : Hid (FirstP P (2 ^ ls.length) none) := by
      have h1 := HF.out
      have h2 : okb = true := by
        rw [← HOK.out, HPB.out]
        simp only [vIn, Bool.true_and, Bool.and_eq_true_iff, decide_eq_true_eq]
        omega
      rw [h2] at h1
      exact h1
    have KK : Hid (∀ wz, Below w5.heap.size w5 wz → Calls Try.prog 26 #[.agg #[.slice la ls.length lc, .slice sa (ln (d + 1) (l : List (Pay × Tr d × Tr d))) sc], .int .i64 h] wz (KnPost wz (trustL ls h))) := (show ∀ wz, _ from fun wz hb => by
      have := typeTrusts_any h (HALL.out wz hb).1.1 (HALL.out wz hb).1.2
      rwa [if_pos HPR.out.1] at this)
    have HKL : Hid ((trustL ls h).length = ls.length) := (knOf_len ls h).2
    obtain ⟨i0, hi0, hz0, hz1, hz2⟩ := info_parts infoInt
    have AK : Below wc.heap.size wc ((wc.alloc (.cells #[] 3)).alloc (.cells #[] 3)) := ((Below.refl _ _).alloc (Nat.le_refl _) _).alloc (by simp) _
    have RA := World.ownsRow_made (base := wc.heap.size) (e := 3) (size := 1) wc #[] 0 (by simp) (by unfold maxLen; omega) (by simp)
    have RB := World.ownsRow_made (base := wc.heap.size) (e := 3) (size := 1) (wc.alloc (.cells #[] 3)) #[] 0 (by simp) (by unfold maxLen; omega) (by simp)
    have RA2 := rowp_below RA ((Below.refl _ (wc.alloc (.cells #[] 3))).alloc (Nat.le_refl _) (.cells #[] 3))
    obtain ⟨wk, hwk⟩ : ∃ W, (wc.alloc (.cells #[] 3)).alloc (.cells #[] 3) = W := ⟨_, rfl⟩
    rw [hwk] at AK RB RA2
    have HRAB : Hid (wk.ownsRow wc.heap.size 3 1 (.slice (some ⟨wc.heap.size, 0, none⟩) 0 0) 0 [] ∧ wk.ownsRow wc.heap.size 3 1 (.slice (some ⟨wc.heap.size + 1, 0, none⟩) 0 0) 0 []) := ⟨by simpa using RA2, by simpa using RB⟩
    have HSK : Hid (wk.heap.size = wc.heap.size + 2) := by
      show wk.heap.size = wc.heap.size + 2
      rw [← hwk]; simp
    have HAK : Hid (Below wc.heap.size wc wk) := AK
    have B_wk : Hid (Below w5.heap.size w5 wk) := Below.then B_wc.out AK B_wc.out.size
    obtain ⟨-, -, p0, p1, -⟩ := HALL.out _ B_wk.out
    clear RA RB RA2 AK
    go_wp2_with fail
    try rw [hwk]
    (try go_at_call 26); refine Calls.mono (KK.out _ B_wk.out) ?_
    rintro e wd ⟨kv, bs, rfl, hb_wd, hgk, hbs⟩
    obtain ⟨ka, kc, rfl, -⟩ := id hgk.rep
    have HTG : Hid (TwoG wc wd (.slice ka (trustL ls h).length kc) (trustL ls h) bs wc.heap.size 0 (wc.heap.size + 1) 0 [] []) := by
      have s1 := HSK.out
      exact ⟨Below.then HAK.out hb_wd HAK.out.size, by simpa using rowp_below HRAB.out.1 hb_wd, by simpa using rowp_below HRAB.out.2 hb_wd, by omega, hgk, fun b hb => by have := hbs b hb; exact ⟨by omega, by omega, this.2⟩⟩
    have hk4 : ((trustL ls h).length : Int) ≤ 4 := by have h1 := HKL.out; have h2 := HPR.out.2; omega
    have hl4 : (ls.length : Int) ≤ 4 := by have h2 := HPR.out.2; omega
    clear hwk p0 p1 hgk hbs hb_wd
    go_wp2_with fail
    go_loopw [13, 14, 16] (fun fa sa q wr => ∃ (j f fc g gc : Nat) (xs ys : List Int), j ≤ ls.length ∧ q = .int .i64 j ∧ fa = .slice (some ⟨f, 0, none⟩) xs.length fc ∧ sa = .slice (some ⟨g, 0, none⟩) ys.length gc ∧ TwoG wc wr (.slice ka (trustL ls h).length kc) (trustL ls h) bs f fc g gc xs ys ∧ Hid (Sf (trustL ls h) j xs ys)) (fun _ _ q _ => ls.length - (intOf q).toNat)
    case atStart => exact ⟨0, _, _, _, _, [], [], by omega, rfl, rfl, rfl, HTG.out, (show Sf (trustL ls h) 0 [] [] from ⟨rfl, rfl, by simp, by simp, by simp⟩)⟩
    case round =>
      obtain ⟨j, f, fc, g, gc, xs, ys, hj, rfl, rfl, rfl, htg, HSF⟩ := hrel
      have HT : Hid _ := htg
      have BR : Hid (Below w5.heap.size w5 wr) := Below.then B_wc.out htg.bel B_wc.out.size
      obtain ⟨-, -, p0, p1, -⟩ := HALL.out _ BR.out
      clear htg
      by_cases hlt : j < ls.length
      · have i1' : (j : Int) < (ls.length : Int) := by omega
        have HL4 : Hid (xs.length < 4 ∧ ys.length < 4) := by
          have h1 := HSF.out.lx
          have h2 := HSF.out.ly
          exact ⟨by omega, by omega⟩
        have HX01 : Hid _ := tm01 (a := (len1 : Int) / 2 ^ j) (Int.ediv_nonneg (by omega) (Int.pow_nonneg (by decide)))
        have HY01 : Hid _ := tm01 (a := (len1 : Int) / 2 ^ (j + 2)) (Int.ediv_nonneg (by omega) (Int.pow_nonneg (by decide)))
        go_wp2_with (at_builtin; refine wpList_append_own_at _ rfl _ _ 29 rfl wc.heap.size 3 i0 _ 1 8 Try.underlying29 hi0 hz0 hz1 hz2 rfl (by decide) _ _ _ rfl (HT.out.a.alloc _) ⟨wr.heap.size, 0, none⟩ 1 1 [.int .i64 (((len1 : Int) / 2 ^ j).tmod 2)] rfl rfl ?c16 ?c26 ?c36 ?c46 ?c56 ?_)
        case c16 => exact cells_new1 wr _ _ _ rfl
        case c26 => simp [Value.oneCell']
        case c36 => have := HL4.out; unfold maxLen; omega
        case c46 => have := HL4.out; omega
        case c56 => have := HT.out.bel.size; simp; omega
        intro v6 w6 own6 grow6 nn6 at6
        have nz6 : v6 ≠ .slice none 0 0 := by intro e; have := nn6; simp [e] at this
        obtain ⟨f', fc', rfl, ht6⟩ := HT.out.appA own6 grow6 nz6 (by simpa [Value.ownBlock] using at6)
        have HT6 : Hid _ := ht6
        have hx' : ∃ x, ((len1 : Int) / 2 ^ j).tmod 2 = x := ⟨_, rfl⟩
        clear own6 grow6 nn6 at6 nz6 ht6 p0 p1
        go_wp2_with (at_builtin; refine wpList_append_own_at _ rfl _ _ 29 rfl wc.heap.size 3 i0 _ 1 8 Try.underlying29 hi0 hz0 hz1 hz2 rfl (by decide) _ _ _ rfl (HT6.out.b.alloc _) ⟨w6.heap.size, 0, none⟩ 1 1 [.int .i64 (((len1 : Int) / 2 ^ (j + 2)).tmod 2)] rfl rfl ?c17 ?c27 ?c37 ?c47 ?c57 ?_)
        case c17 => exact cells_new1 w6 _ _ _ rfl
        case c27 => simp [Value.oneCell']
        case c37 => have := HL4.out; unfold maxLen; omega
        case c47 => have := HL4.out; omega
        case c57 => have := HT6.out.bel.size; simp; omega
        intro v7 w7 own7 grow7 nn7 at7
        have nz7 : v7 ≠ .slice none 0 0 := by intro e; have := nn7; simp [e] at this
        obtain ⟨g', gc', rfl, ht7⟩ := HT6.out.swap.appA own7 grow7 nz7 (by simpa [Value.ownBlock] using at7)
        replace ht7 := ht7.swap
        obtain ⟨x, hx⟩ : ∃ x, ((len1 : Int) / 2 ^ j).tmod 2 = x := ⟨_, rfl⟩
        obtain ⟨y, hy⟩ : ∃ y, ((len1 : Int) / 2 ^ (j + 2)).tmod 2 = y := ⟨_, rfl⟩
        rw [hx] at HX01 ht7
        rw [hy] at HY01 ht7
        have HXX : Hid _ := hx
        have HYY : Hid _ := hy
        have HT7 : Hid _ := ht7
        have hjk : j < (trustL ls h).length := by rw [HKL.out]; exact hlt
        obtain ⟨kb, off, rfl, ck⟩ : ∃ b off, ka = some ⟨b, off, none⟩ ∧ w7.cell? ⟨b, off + j, none⟩ = some (.bool (trustL ls h)[j]) := by
          obtain ⟨a', c', e, -, -, hc⟩ := ht7.k.rep
          cases e
          exact hc j hjk
        obtain ⟨kx, hkx⟩ : ∃ x, (trustL ls h)[j] = x := ⟨_, rfl⟩
        rw [hkx] at ck
        have HKX : Hid ((trustL ls h).getD j false = kx) := by
          show (trustL ls h).getD j false = kx
          rw [List.getD_eq_getElem?_getD, List.getElem?_eq_getElem hjk]; exact hkx
        have i2' : (j : Int) < ((trustL ls h).length : Int) := by omega
        have cb := ht7.cellB j (by simp [HSF.out.ly])
        have ca := ht7.swap.cellB j (by simp [HSF.out.lx])
        obtain ⟨cb1, cb2⟩ := cb
        obtain ⟨ca1, ca2⟩ := ca
        have ea : (xs ++ [x])[j]'(by simp [HSF.out.lx]) = x := by simp [← HSF.out.lx]
        rw [ea] at ca1
        have lxj : ((xs ++ [x]).length : Int) = (j : Int) + 1 := by simp [HSF.out.lx]
        have lyj : ((ys ++ [y]).length : Int) = (j : Int) + 1 := by simp [HSF.out.ly]
        have i3' : (j : Int) < ((xs ++ [x]).length : Int) := by omega
        have i4' : (j : Int) < ((ys ++ [y]).length : Int) := by omega
        have i5' : (j : Int) < (xs.length : Int) + 1 := by have := HSF.out.lx; omega
        have i6' : (j : Int) < (ys.length : Int) + 1 := by have := HSF.out.ly; omega
        clear hx hy hkx own7 grow7 nn7 at7 nz7 ht7 lxj lyj ea hx'
        cases kx
        · go_wp2
          exact ⟨⟨j + 1, f', fc', g', gc', xs ++ [x], ys ++ [y], by omega, by simp, by simp, by simp, HT7.out, HSF.out.step HX01.out HY01.out (fun e => by rw [HKX.out] at e; cases e)⟩, by simp [intOf]; omega⟩
        · go_wp2
          have hs := HT7.out.setB j x
          have e2 := set_snoc ys y x
          rw [HSF.out.ly] at e2
          rw [e2] at hs
          exact ⟨⟨j + 1, f', fc', g', gc', xs ++ [x], ys ++ [x], by omega, by simp, by simp, by simp, hs, HSF.out.step HX01.out HX01.out (fun _ => rfl)⟩, by simp [intOf]; omega⟩
      · obtain rfl : j = ls.length := by omega
        have HG0 : Hid (∀ wz, Below wr.heap.size wr wz → GRep (Value.int .i64) wz (.slice (some ⟨f, 0, none⟩) xs.length fc) xs ∧ GRep (Value.int .i64) wz (.slice (some ⟨g, 0, none⟩) ys.length gc) ys ∧ GRep Value.bool wz (.slice ka (trustL ls h).length kc) (trustL ls h)) := (show ∀ wz, _ from fun wz hb => by
          obtain ⟨_, g1, -⟩ := row_gown HT.out.a
          obtain ⟨_, g2, -⟩ := row_gown HT.out.b
          exact ⟨g1.rep.below hb, g2.rep.below hb, HT.out.k.rep.below hb⟩)
        have HEQ : Hid (setV (trustL ls h) (runS ls (d + 1) (l : List (Pay × Tr d × Tr d)) xs).ws = setV (trustL ls h) (runS ls (d + 1) (l : List (Pay × Tr d × Tr d)) ys).ws) := by
          have h1 := HNO.out
          rw [← HPP.out] at h1
          exact sway_none HPR.out.2 h1 HSF.out.lx HSF.out.ly HSF.out.bx HSF.out.by' (HSF.out.same HKL.out)
        obtain ⟨sx, hsx⟩ : ∃ s, runS ls (d + 1) (l : List (Pay × Tr d × Tr d)) xs = s := ⟨_, rfl⟩
        obtain ⟨sy, hsy⟩ : ∃ s, runS ls (d + 1) (l : List (Pay × Tr d × Tr d)) ys = s := ⟨_, rfl⟩
        rw [hsx, hsy] at HEQ
        have HSX : Hid _ := hsx
        have HSY : Hid _ := hsy
        have HFX : Hid (sx.ss.length ≤ 8 ∧ sx.ws.length ≤ 8 ∧ sy.ss.length ≤ 8 ∧ sy.ws.length ≤ 8) := by
          rw [← hsx, ← hsy]
          exact ⟨told_fewL.1, told_fewL.2, told_fewL.1, told_fewL.2⟩
        have KRx : Hid _ := runOf_any (HALL.out _ BR.out).1.1 (HALL.out _ BR.out).1.2 (HG0.out _ (Below.refl _ _)).1
        clear hsx hsy
        go_wp2_with fail
        (try go_at_call 16); refine Calls.mono KRx.out ?_
        rintro e wrx ⟨xxa, xxb, xxc, rfl, hb_wrx, rx⟩
        rw [HSX.out] at rx
        obtain ⟨nx, mx, rfl⟩ := one_len rx.n
        obtain ⟨nx', mx', rfl⟩ := one_len rx.ws
        obtain ⟨nx'', mx'', rfl⟩ := one_len rx.ss
        obtain ⟨w8, hw8⟩ : ∃ W, wrx.alloc (.cells #[.slice nx sx.n.length mx, .slice nx' sx.ws.length mx', .slice nx'' sx.ss.length mx''] 36) = W := ⟨_, rfl⟩
        have A8 : Below wrx.heap.size wrx w8 := by rw [← hw8]; exact (Below.refl _ _).alloc (Nat.le_refl _) _
        have e0 : w8.cell? ⟨wrx.heap.size, 0, none⟩ = some (.slice nx sx.n.length mx) := by rw [← hw8]; simp
        have e1 : w8.cell? ⟨wrx.heap.size, 1, none⟩ = some (.slice nx' sx.ws.length mx') := by rw [← hw8]; simp
        have e2 : w8.cell? ⟨wrx.heap.size, 2, none⟩ = some (.slice nx'' sx.ss.length mx'') := by rw [← hw8]; simp
        have HRX : Hid (∀ wz, Below w8.heap.size w8 wz → GRep (Value.int .i64) wz (.slice nx sx.n.length mx) sx.n ∧ LRep wz (.slice nx' sx.ws.length mx') sx.ws ∧ LRep wz (.slice nx'' sx.ss.length mx'') sx.ss) := (show ∀ wz, _ from fun wz hb => by
          obtain ⟨g1, g2, g3⟩ := rx.repsL
          exact ⟨(g1.below A8).below hb, (g2.below A8).below hb, (g3.below A8).below hb⟩)
        have HW8 : Hid _ := hw8
        have Br8 : Hid (Below wr.heap.size wr w8) := Below.then hb_wrx A8 hb_wrx.size
        have B_w8 : Hid (Below w5.heap.size w5 w8) := Below.then BR.out Br8.out BR.out.size
        have HE : Hid (w8.cell? ⟨wrx.heap.size, 0, none⟩ = some (.slice nx sx.n.length mx) ∧ w8.cell? ⟨wrx.heap.size, 1, none⟩ = some (.slice nx' sx.ws.length mx') ∧ w8.cell? ⟨wrx.heap.size, 2, none⟩ = some (.slice nx'' sx.ss.length mx'')) := ⟨e0, e1, e2⟩
        replace p0 := cell_later hb_wrx p0
        replace p1 := cell_later hb_wrx p1
        have KRy : Hid _ := runOf_any (HALL.out _ B_w8.out).1.1 (HALL.out _ B_w8.out).1.2 (HG0.out _ Br8.out).2.1
        clear hw8 A8 rx hb_wrx e0 e1 e2
        go_wp2_with fail
        try rw [HW8.out]
        clear p0 p1
        obtain ⟨-, -, p0, p1, -⟩ := HALL.out _ B_w8.out
        (try go_at_call 16); refine Calls.mono KRy.out ?_
        rintro e wry ⟨xya, xyb, xyc, rfl, hb_wry, ry⟩
        rw [HSY.out] at ry
        obtain ⟨ny, my, rfl⟩ := one_len ry.n
        obtain ⟨ny', my', rfl⟩ := one_len ry.ws
        obtain ⟨ny'', my'', rfl⟩ := one_len ry.ss
        have e0 := cell_later hb_wry HE.out.1
        have e1 := cell_later hb_wry HE.out.2.1
        have e2 := cell_later hb_wry HE.out.2.2
        obtain ⟨wF, hwF⟩ : ∃ W, wry.alloc (.cells #[.slice ny sy.n.length my, .slice ny' sy.ws.length my', .slice ny'' sy.ss.length my''] 36) = W := ⟨_, rfl⟩
        have AF : Below wry.heap.size wry wF := by rw [← hwF]; exact (Below.refl _ _).alloc (Nat.le_refl _) _
        have g0 : wF.cell? ⟨wry.heap.size, 0, none⟩ = some (.slice ny sy.n.length my) := by rw [← hwF]; simp
        have g1 : wF.cell? ⟨wry.heap.size, 1, none⟩ = some (.slice ny' sy.ws.length my') := by rw [← hwF]; simp
        have g2 : wF.cell? ⟨wry.heap.size, 2, none⟩ = some (.slice ny'' sy.ss.length my'') := by rw [← hwF]; simp
        have HRY : Hid (∀ wz, Below wF.heap.size wF wz → GRep (Value.int .i64) wz (.slice ny sy.n.length my) sy.n ∧ LRep wz (.slice ny' sy.ws.length my') sy.ws ∧ LRep wz (.slice ny'' sy.ss.length my'') sy.ss) := (show ∀ wz, _ from fun wz hb => by
          obtain ⟨q1, q2, q3⟩ := ry.repsL
          exact ⟨(q1.below AF).below hb, (q2.below AF).below hb, (q3.below AF).below hb⟩)
        have B8F : Hid (Below w8.heap.size w8 wF) := Below.then hb_wry AF hb_wry.size
        have BrF : Hid (Below wr.heap.size wr wF) := Below.then Br8.out B8F.out Br8.out.size
        have HWF : Hid _ := hwF
        have B_wF : Hid (Below w5.heap.size w5 wF) := Below.then B_w8.out B8F.out B_w8.out.size
        go_wp2_with fail
        try rw [HWF.out]
        replace e0 := cell_later AF e0
        replace e1 := cell_later AF e1
        replace e2 := cell_later AF e2
        clear hwF AF ry hb_wry HWF p0 p1
        refine wp_region_held (S := (fun wz => Below wF.heap.size wF wz)) (by kernel_rfl) ?_
        change wpAnyH _ _ _ _ _ _ _ _ (World.drew _)
        have hHeld := (Below.refl wF.heap.size wF).drew
        refine' wpAnyH_take (i := 0) (v := (.agg #[.slice nx sx.n.length mx, .slice nx' sx.ws.length mx', .slice nx'' sx.ss.length mx''])) rfl (by kernel_rfl) (by kernel_rfl) (by kernel_rfl) (fun _ _ _ h => h) (Or.inl ⟨by rfl, ?hy6⟩) hHeld ?hn6
        case hy6 => (intro wz hSw; have k0 := cell_later hSw e0; have k1 := cell_later hSw e1; have k2 := cell_later hSw e2; go_simp)
        try simp only [nrm, Act.put]
        refine' wpAnyH_take (i := 1) (v := _) rfl (by kernel_rfl) (by kernel_rfl) (by kernel_rfl) (fun _ _ _ h => h) (Or.inl ⟨by rfl, ?hy7⟩) hHeld ?hn7
        case hy7 => (intro wz hSw; (try dsimp only at hSw); go_simp; first | done | with_reducible rfl)
        try simp only [nrm, Act.put]
        refine' wpAnyH_take (i := 3) (v := (.agg #[.slice ny sy.n.length my, .slice ny' sy.ws.length my', .slice ny'' sy.ss.length my''])) rfl (by kernel_rfl) (by kernel_rfl) (by kernel_rfl) (fun _ _ _ h => h) (Or.inl ⟨by rfl, ?hy8⟩) hHeld ?hn8
        case hy8 => (intro wz hSw; have k0 := cell_later hSw g0; have k1 := cell_later hSw g1; have k2 := cell_later hSw g2; go_simp)
        try simp only [nrm, Act.put]
        refine' wpAnyH_take (i := 4) (v := _) rfl (by kernel_rfl) (by kernel_rfl) (by kernel_rfl) (fun _ _ _ h => h) (Or.inl ⟨by rfl, ?hy9⟩) hHeld ?hn9
        case hy9 => (intro wz hSw; (try dsimp only at hSw); go_simp; first | done | with_reducible rfl)
        try simp only [nrm, Act.put]
        refine wpAnyH_ready (rs := [2]) (by kernel_rfl) (by simp) ?_
        refine AllReadyH.cons rfl (fun K hK => ?_) AllReadyH.nil
        go_simp
        refine Calls.mono (runSets_any (HRX.out _ (Below.then B8F.out hHeld B8F.out.size)).2.1 (HG0.out _ (Below.then BrF.out hHeld BrF.out.size)).2.2 (by have := HFX.out.2.1; omega)) ?_; rintro e' z3 ⟨t1, _, rfl, hbx, o1, -⟩; have q1 := o1.rep; clear o1; have hK2 := Below.then hHeld hbx hHeld.size
        refine hK.out _ _ (hK2) (fun hHeld => ?_)
        clear hK K
        refine wpAnyH_ready (rs := [5]) (by kernel_rfl) (by simp) ?_
        refine AllReadyH.cons rfl (fun K hK => ?_) AllReadyH.nil
        go_simp
        refine Calls.mono (runSets_any (HRY.out _ hHeld).2.1 (HG0.out _ (Below.then BrF.out hHeld BrF.out.size)).2.2 (by have := HFX.out.2.2.2; omega)) ?_; rintro e' z4 ⟨t2, _, rfl, hbx, o2, -⟩; have q2 := o2.rep; replace q1 := q1.below hbx; clear o2; have hK2 := Below.then hHeld hbx hHeld.size
        refine hK.out _ _ (hK2) (fun hHeld => ?_)
        clear hK K
        refine wpAnyH_ready (rs := [6]) (by kernel_rfl) (by simp) ?_
        refine AllReadyH.cons rfl (fun K hK => ?_) AllReadyH.nil
        go_simp
        have KI := lcWrites_any q1 q2; rw [decide_eq_true HEQ.out] at KI; refine Calls.mono KI ?_; rintro e' z5 ⟨rfl, hbx⟩; clear KI q1 q2; have hK2 := Below.then hHeld hbx hHeld.size
        refine hK.out _ _ (hK2) (fun hHeld => ?_)
        clear hK K
        refine' wpAnyH_take (i := 7) (v := _) rfl (by kernel_rfl) (by kernel_rfl) (by kernel_rfl) (fun _ _ _ h => h) (Or.inl ⟨by rfl, ?hy10⟩) hHeld ?hn10
        case hy10 => (intro wz hSw; (try dsimp only at hSw); go_simp; first | done | with_reducible rfl)
        try simp only [nrm, Act.put]
        refine wpAnyH_done (by kernel_rfl) ?_ _
        have HBq : Hid (Below w5.heap.size w5 _) := Below.then B_wF.out hHeld B_wF.out.size
        clear hHeld
        go_wp2
        go_ret
        exact ⟨rfl, (HALL.out _ HBq.out).2.2.2.2⟩

#print axioms fnSwayAll_walk
end Go.Proofs.Ytlhfbhidgabgbaa
