/- The step with a number, of the model. -/
import Derived.Test.YtpmhkhajahoaaaaDoorAtP
namespace Go.Proofs.YtpmhkhajahoaaaaDoor
open Go.RowKit
set_option linter.unusedSimpArgs false
set_option linter.unusedVariables false
attribute [local go_sem] World.cell?_alloc_some

theorem nodup_part : ∀ {L : List (List Nat)} {x : List Nat}, L.flatten.Nodup → x ∈ L → x.Nodup
  | y :: L, x, h, hx => by
    rw [List.flatten_cons] at h
    have h' := List.nodup_append.1 h
    rcases List.mem_cons.1 hx with rfl | hx
    · exact h'.1
    · exact nodup_part h'.2.1 hx
theorem flat_srep {W w : World} {v : Value} {fs : List Sg} {xs : List Value} {base : Nat} (own : w.ownsRow base 43 8 v fs.length xs) (fl : FlatR W fs xs) (hb : Below W.heap.size W w) (hv : v ≠ .slice none 0 0) : SRep w v fs := by
  obtain ⟨g, c, rfl, -, -⟩ := row_some own hv
  obtain ⟨_, ⟨h1, _⟩ | ⟨g', cap, cur, hv', hg, hh, hc, hm, hs, ht⟩⟩ := id own
  · cases h1
  · cases hv'
    refine ⟨_, c, rfl, hc, hm, fun i hi => ?_⟩
    obtain ⟨t, e, hcs, r1, r2⟩ := FlatR.get fl (List.getElem?_eq_getElem hi)
    exact ⟨g, 0, t, e, rfl, by rw [Nat.zero_add]; exact row_cells own hcs, r1.below hb, r2.below hb⟩

set_option maxHeartbeats 4000000 in
theorem sProgAt_any {d : Nat} {T : Tr d} {lv sv : Value} {ls : List (Int × Int)} {w : World} (n : Int) (hL : LRep w lv ls) (hR : Rep w d sv T) (hc : cnt d T ≤ 1048576) :
    Calls Tryd.prog 29 #[.agg #[lv, sv], .int .i64 n] w (AtPost w ls d T n) := by
  have Z8 := C8.new (w.alloc (.cells #[lv, sv] 26)) (.int .i64 0) (.int .i64 0) (.int .i64 0) (.int .i64 0) (.int .i64 0) (.int .i64 0) (.slice none 0 0) (.slice none 0 0) 43
  rw [show (w.alloc (.cells #[lv, sv] 26)).heap.size = w.heap.size + 1 by simp] at Z8
  have A : Below w.heap.size w ((w.alloc (.cells #[lv, sv] 26)).alloc (.cells #[.int .i64 0, .int .i64 0, .int .i64 0, .int .i64 0, .int .i64 0, .int .i64 0, .slice none 0 0, .slice none 0 0] 43)) := ((Below.refl _ _).alloc (Nat.le_refl _) _).alloc (by simp) _
  have C1 : Hid _ := sProgOk_any (hL.below A) (hR.below A) hc
  have HR : Hid (∀ w', Below w.heap.size w w' → Rep w' d sv T) := (show ∀ w', _ from fun w' hb => hR.below hb)
  obtain ⟨la, lc, rfl, -⟩ := hL
  obtain ⟨sa, sc, rfl⟩ := hR.slice
  clear hR
  have HZ8 : Hid _ := Z8
  clear Z8
  unfold AtPost
  go_enter Tryd.func29, Tryd.ntmps29
  go_wp2_with fail
  go_at_call 18; refine Calls.mono C1.out ?_
  rintro e w1 ⟨rfl, hb1⟩
  have B1 : Below w.heap.size w w1 := Below.then A hb1 (by simp; omega)
  have s1 : w.heap.size + 1 < w1.heap.size := by have := hb1.size; simp at this; omega
  have p1 : w1.cell? ⟨w.heap.size, 1, none⟩ = some (.slice sa (ln d T) sc) := cell_later hb1 (by go_simp)
  have Z1 := C8.below HZ8.out hb1
  have HZ : Hid (C8 w1 (w.heap.size + 1) (.int .i64 0) (.int .i64 0) (.int .i64 0) (.int .i64 0) (.int .i64 0) (.int .i64 0) (.slice none 0 0) (.slice none 0 0)) := Z1
  cases ok : progB ls d T
  · obtain ⟨⟨x0, x1, x2, x3, x4, x5, x6, x7⟩, y0, y1, y2, y3, y4, y5, y6, y7⟩ := Z1
    clear hb1 A C1
    go_wp2
    have AF := st8_c8 HZ.out (.int .i64 0) (.int .i64 0) (.int .i64 0) (.int .i64 0) (.int .i64 0) (.int .i64 0) (.slice none 0 0) (.slice none 0 0)
    have BF := st8_below B1 (show w.heap.size ≤ w.heap.size + 1 by omega) (.int .i64 0) (.int .i64 0) (.int .i64 0) (.int .i64 0) (.int .i64 0) (.int .i64 0) (.slice none 0 0) (.slice none 0 0)
    have HF := fun b hb => st8_heap w1 (w.heap.size + 1) b hb (.int .i64 0) (.int .i64 0) (.int .i64 0) (.int .i64 0) (.int .i64 0) (.int .i64 0) (.slice none 0 0) (.slice none 0 0)
    have SF := st8_size w1 (w.heap.size + 1) (.int .i64 0) (.int .i64 0) (.int .i64 0) (.int .i64 0) (.int .i64 0) (.int .i64 0) (.slice none 0 0) (.slice none 0 0)
    generalize ((((((((w1.setCell ⟨w.heap.size + 1, 0, none⟩ (.int .i64 0)).setCell ⟨w.heap.size + 1, 1, none⟩ (.int .i64 0)).setCell ⟨w.heap.size + 1, 2, none⟩ (.int .i64 0)).setCell ⟨w.heap.size + 1, 3, none⟩ (.int .i64 0)).setCell ⟨w.heap.size + 1, 4, none⟩ (.int .i64 0)).setCell ⟨w.heap.size + 1, 5, none⟩ (.int .i64 0)).setCell ⟨w.heap.size + 1, 6, none⟩ (.slice none 0 0)).setCell ⟨w.heap.size + 1, 7, none⟩ (.slice none 0 0)) = wf at *
    obtain ⟨⟨c0, c1, c2, c3, c4, c5, c6, c7⟩, _⟩ := AF
    refine bodyPost_ret (v := .tuple #[zeroStep, .bool false]) (by simp [results, Tryd.results29, go_sem, stepOf, zeroStep, c0, c1, c2, c3, c4, c5, c6, c7]) rfl ⟨BF, .inr ⟨by rw [ok]; rfl, rfl⟩⟩
  have hc8 : cnt d T ≤ 8 := by
    have := ok
    simp [progB] at this
    omega
  have C2 : Hid _ := count_any (HR.out w1 B1) hc
  have hwz := w64 ((cnt d T : Int) - 1) (by omega)
  have HOK : Hid (progB ls d T = true) := ok
  clear hb1 A C1 ok Z1
  go_wp2_with fail
  go_at_call 52; refine Calls.mono C2.out ?_
  rintro e w2 ⟨rfl, hb2⟩
  have B2 : Below w.heap.size w w2 := Below.then B1 hb2 B1.size
  have Z2 := C8.below HZ.out hb2
  have HZ2 : Hid (C8 w2 (w.heap.size + 1) (.int .i64 0) (.int .i64 0) (.int .i64 0) (.int .i64 0) (.int .i64 0) (.int .i64 0) (.slice none 0 0) (.slice none 0 0)) := Z2
  replace p1 := cell_later hb2 p1
  have s2 : w.heap.size + 1 < w2.heap.size := Nat.lt_of_lt_of_le s1 hb2.size
  clear hb2 C2 HZ
  cases hv : vIn (cnt d T) n
  · have hv' : (decide (0 ≤ n) && decide (n ≤ (cnt d T : Int) - 1)) = false := (vIn_le _ _).symm.trans hv
    obtain ⟨⟨x0, x1, x2, x3, x4, x5, x6, x7⟩, y0, y1, y2, y3, y4, y5, y6, y7⟩ := Z2
    have HZ := HZ2
    go_wp2_with (first | (go_at_call 59; refine (l6In_any _ _ _ _).mono ?_; rintro e w3 ⟨rfl, hw3⟩; subst w3; rw [hv']))
    have AF := st8_c8 HZ.out (.int .i64 0) (.int .i64 0) (.int .i64 0) (.int .i64 0) (.int .i64 0) (.int .i64 0) (.slice none 0 0) (.slice none 0 0)
    have BF := st8_below B2 (show w.heap.size ≤ w.heap.size + 1 by omega) (.int .i64 0) (.int .i64 0) (.int .i64 0) (.int .i64 0) (.int .i64 0) (.int .i64 0) (.slice none 0 0) (.slice none 0 0)
    have HF := fun b hb => st8_heap w2 (w.heap.size + 1) b hb (.int .i64 0) (.int .i64 0) (.int .i64 0) (.int .i64 0) (.int .i64 0) (.int .i64 0) (.slice none 0 0) (.slice none 0 0)
    have SF := st8_size w2 (w.heap.size + 1) (.int .i64 0) (.int .i64 0) (.int .i64 0) (.int .i64 0) (.int .i64 0) (.int .i64 0) (.slice none 0 0) (.slice none 0 0)
    generalize ((((((((w2.setCell ⟨w.heap.size + 1, 0, none⟩ (.int .i64 0)).setCell ⟨w.heap.size + 1, 1, none⟩ (.int .i64 0)).setCell ⟨w.heap.size + 1, 2, none⟩ (.int .i64 0)).setCell ⟨w.heap.size + 1, 3, none⟩ (.int .i64 0)).setCell ⟨w.heap.size + 1, 4, none⟩ (.int .i64 0)).setCell ⟨w.heap.size + 1, 5, none⟩ (.int .i64 0)).setCell ⟨w.heap.size + 1, 6, none⟩ (.slice none 0 0)).setCell ⟨w.heap.size + 1, 7, none⟩ (.slice none 0 0)) = wf at *
    obtain ⟨⟨c0, c1, c2, c3, c4, c5, c6, c7⟩, _⟩ := AF
    refine bodyPost_ret (v := .tuple #[zeroStep, .bool false]) (by simp [results, Tryd.results29, go_sem, stepOf, zeroStep, c0, c1, c2, c3, c4, c5, c6, c7]) rfl ⟨BF, .inr ⟨by rw [HOK.out, hv]; rfl, rfl⟩⟩
  · have hv' : (decide (0 ≤ n) && decide (n ≤ (cnt d T : Int) - 1)) = true := (vIn_le _ _).symm.trans hv
    have hn : 0 ≤ n ∧ n < cnt d T := by simpa [vIn] using hv
    obtain ⟨q, rfl⟩ : ∃ q : Nat, n = q := ⟨n.toNat, by omega⟩
    have hq : q < cnt d T := by omega
    have hql : q < (flat d T).length := by rw [flat_length]; exact hq
    have q0 : (0 : Int) ≤ (q : Int) := by omega
    have q1 : (q : Int) < (cnt d T : Int) := by omega
    have C3 : Hid _ := l2All_any w2 d T _ w2 (HR.out w2 B2) (Below.refl _ _) hc
    have HV : Hid (vIn (cnt d T) (q : Int) = true) := hv
    have HV' : Hid ((decide (0 ≤ (q : Int)) && decide ((q : Int) ≤ (cnt d T : Int) - 1)) = true) := hv'
    clear hv hv' Z2
    go_wp2_with (first | (go_at_call 59; refine (l6In_any _ _ _ _).mono ?_; rintro e w3 ⟨rfl, hw3⟩; subst w3; rw [HV'.out]))
    go_at_call 54; refine Calls.mono C3.out ?_
    rintro e w3 ⟨v3, xs3, rfl, hb3, own3, fl3, nn3⟩
    have hlen : (flat d T).length = cnt d T := flat_length d T
    have SR : SRep w3 v3 (flat d T) := flat_srep (by rw [hlen]; exact own3) fl3 hb3 nn3
    have B3 : Below w.heap.size w w3 := Below.then B2 hb3 B2.size
    have C4 : Hid _ := l2Copy_rows (flat d T) v3 w3 SR (by omega) (fun i hi s wx hwx => by
      have hm := flat_cnt d T _ (List.getElem_mem hi)
      exact ⟨fun r => l2Copy_any _ _ _ _ r (by omega), fun r => l2Copy_any _ _ _ _ r (by omega)⟩)
    have HZ3 : Hid (C8 w3 (w.heap.size + 1) (.int .i64 0) (.int .i64 0) (.int .i64 0) (.int .i64 0) (.int .i64 0) (.int .i64 0) (.slice none 0 0) (.slice none 0 0)) := C8.below HZ2.out hb3
    have s3 : w.heap.size + 1 < w3.heap.size := Nat.lt_of_lt_of_le s2 hb3.size
    obtain ⟨g3, gc3, rfl, -, -⟩ := row_some own3 nn3
    clear hb3 own3 fl3 nn3 SR C3 HZ2 p1
    go_wp2_with fail
    go_at_call 60; refine Calls.mono C4.out ?_
    rintro e w4 ⟨v4, bs, rfl, hb4, so, rg, nd⟩
    have B4 : Below w.heap.size w w4 := Below.then B3 hb4 B3.size
    have Z4 := C8.below HZ3.out hb4
    have HZ : Hid (C8 w4 (w.heap.size + 1) (.int .i64 0) (.int .i64 0) (.int .i64 0) (.int .i64 0) (.int .i64 0) (.int .i64 0) (.slice none 0 0) (.slice none 0 0)) := Z4
    obtain ⟨⟨x0, x1, x2, x3, x4, x5, x6, x7⟩, y0, y1, y2, y3, y4, y5, y6, y7⟩ := Z4
    rcases so with ⟨h0, _⟩ | ⟨_, g, c, parts, rfl, hlc, hcm, ht, hp, rfl, hr⟩
    · exact absurd h0 (by omega)
    obtain ⟨t, e, b1, b2, hpq, hra, o1, o2⟩ := hr q hql
    have hx : (flat d T)[q]? = some (flat d T)[q] := List.getElem?_eq_getElem hql
    generalize (flat d T)[q] = x at *
    obtain ⟨k, p, T1, T2⟩ := x
    dsimp only at hra o1 o2
    obtain ⟨ta', tc', rfl⟩ := o1.slice
    obtain ⟨ea', ec', rfl⟩ := o2.slice
    obtain ⟨m0, m1, m2, m3, m4, m5, m6, m7⟩ := range8 hra
    have hmem : ∀ b ∈ b1 ++ b2, b ∈ g :: parts.flatten := fun b hbm => List.mem_cons_of_mem _ (List.mem_flatten.2 ⟨_, List.mem_of_getElem? hpq, hbm⟩)
    have HRG : Hid (∀ b ∈ b1 ++ b2, w3.heap.size ≤ b ∧ b < w4.heap.size) := (show ∀ b ∈ b1 ++ b2, _ from fun b hb => rg b (hmem b hb))
    have ndp : (b1 ++ b2).Nodup := by
      have h1 := (List.nodup_cons.1 nd).2
      exact nodup_part h1 (List.mem_of_getElem? hpq)
    have HO1 : Hid (Own w4 k (.slice ta' (ln k T1) tc') T1 b1) := o1
    have HO2 : Hid (Own w4 k (.slice ea' (ln k T2) ec') T2 b2) := o2
    have HX : Hid _ := hx
    rw [hlen]
    have q2 : (q : Int) < ((flat d T).length : Int) := by omega
    clear hb4 o1 o2 rg nd hr hp ht hra hpq hx hmem C4 HZ3
    go_wp2
    have AF := st8_c8 HZ.out (.int .i64 p.k) (.int .i64 p.v) (.int .i64 p.vk) (.int .i64 p.va) (.int .i64 p.vb) (.int .i64 p.h) (.slice ta' (ln k T1) tc') (.slice ea' (ln k T2) ec')
    have BF := st8_below B4 (show w.heap.size ≤ w.heap.size + 1 by omega) (.int .i64 p.k) (.int .i64 p.v) (.int .i64 p.vk) (.int .i64 p.va) (.int .i64 p.vb) (.int .i64 p.h) (.slice ta' (ln k T1) tc') (.slice ea' (ln k T2) ec')
    have HF := fun b hb => st8_heap w4 (w.heap.size + 1) b hb (.int .i64 p.k) (.int .i64 p.v) (.int .i64 p.vk) (.int .i64 p.va) (.int .i64 p.vb) (.int .i64 p.h) (.slice ta' (ln k T1) tc') (.slice ea' (ln k T2) ec')
    have SF := st8_size w4 (w.heap.size + 1) (.int .i64 p.k) (.int .i64 p.v) (.int .i64 p.vk) (.int .i64 p.va) (.int .i64 p.vb) (.int .i64 p.h) (.slice ta' (ln k T1) tc') (.slice ea' (ln k T2) ec')
    generalize ((((((((w4.setCell ⟨w.heap.size + 1, 0, none⟩ (.int .i64 p.k)).setCell ⟨w.heap.size + 1, 1, none⟩ (.int .i64 p.v)).setCell ⟨w.heap.size + 1, 2, none⟩ (.int .i64 p.vk)).setCell ⟨w.heap.size + 1, 3, none⟩ (.int .i64 p.va)).setCell ⟨w.heap.size + 1, 4, none⟩ (.int .i64 p.vb)).setCell ⟨w.heap.size + 1, 5, none⟩ (.int .i64 p.h)).setCell ⟨w.heap.size + 1, 6, none⟩ (.slice ta' (ln k T1) tc')).setCell ⟨w.heap.size + 1, 7, none⟩ (.slice ea' (ln k T2) ec')) = wf at *
    obtain ⟨⟨c0, c1, c2, c3, c4, c5, c6, c7⟩, _⟩ := AF
    refine bodyPost_ret (v := .tuple #[stepOf p (.slice ta' (ln k T1) tc') (.slice ea' (ln k T2) ec'), .bool true]) (by simp [results, Tryd.results29, go_sem, stepOf, zeroStep, c0, c1, c2, c3, c4, c5, c6, c7]) rfl ⟨BF, .inl ⟨by rw [HOK.out, HV.out]; rfl, ⟨k, p, T1, T2⟩, _, _, b1, b2, by simpa using HX.out, rfl, Own.frame (fun b hb => HF b (by have := HRG.out b (List.mem_append_left _ hb); omega)) HO1.out, Own.frame (fun b hb => HF b (by have := HRG.out b (List.mem_append_right _ hb); omega)) HO2.out, fun b hb => by have := HRG.out b hb; have := B3.size; omega, ndp⟩⟩

end Go.Proofs.YtpmhkhajahoaaaaDoor
