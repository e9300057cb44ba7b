/- Steps that are marked with numbers, one behind the other: walked. -/
import Derived.Test.YtlhfbhidgabgbaaMkA
namespace Go.Proofs.Ytlhfbhidgabgbaa
open Go.RowKit
set_option linter.unusedSimpArgs false
set_option linter.unusedVariables false

/-- The first i steps are marked, the others not yet. -/
def mix {d : Nat} (k : Int) (l : List (Pay × Tr d × Tr d)) (i : Nat) : List (Pay × Tr d × Tr d) := (mkL (mkT d) (cnt d) k l).take i ++ l.drop i
theorem mix_length {d : Nat} (k : Int) (l : List (Pay × Tr d × Tr d)) (i : Nat) (hi : i ≤ l.length) : (mix k l i).length = l.length := by
  simp [mix, mkL_length]; omega
theorem mix_lt {d : Nat} (k : Int) (l : List (Pay × Tr d × Tr d)) (i q : Nat) (hq : q < i) (hi : i ≤ l.length) (h : q < (mix k l i).length) (h' : q < (mkL (mkT d) (cnt d) k l).length) : (mix k l i)[q] = (mkL (mkT d) (cnt d) k l)[q] := by
  have e : (mix k l i)[q]? = (mkL (mkT d) (cnt d) k l)[q]? := by
    unfold mix
    rw [List.getElem?_append_left (by simp [mkL_length]; omega), List.getElem?_take_of_lt hq]
  rw [List.getElem?_eq_getElem h, List.getElem?_eq_getElem h'] at e
  exact Option.some.inj e
theorem mix_ge {d : Nat} (k : Int) (l : List (Pay × Tr d × Tr d)) (i q : Nat) (hq : i ≤ q) (hi : i ≤ l.length) (h : q < (mix k l i).length) (h' : q < l.length) : (mix k l i)[q] = l[q] := by
  have e : (mix k l i)[q]? = l[q]? := by
    unfold mix
    rw [List.getElem?_append_right (by simp [mkL_length]; omega), List.getElem?_drop]
    congr 1
    simp [mkL_length]; omega
  rw [List.getElem?_eq_getElem h, List.getElem?_eq_getElem h'] at e
  exact Option.some.inj e
theorem mix_zero {d : Nat} (k : Int) (l : List (Pay × Tr d × Tr d)) : mix k l 0 = l := by simp [mix]
theorem mix_all {d : Nat} (k : Int) (l : List (Pay × Tr d × Tr d)) : mix k l l.length = mkL (mkT d) (cnt d) k l := by
  unfold mix
  rw [List.drop_length, List.append_nil, List.take_of_length_le (by rw [mkL_length]; exact Nat.le_refl _)]

theorem nodup_parts {parts : List (List Nat)} {g : Nat} (h : (g :: parts.flatten).Nodup) {i : Nat} {b1 b2 : List Nat} (hp : parts[i]? = some (b1 ++ b2)) :
    b1.Nodup ∧ b2.Nodup ∧ (∀ x ∈ b1, x ∉ b2) ∧ (∀ x ∈ b1 ++ b2, x ≠ g) ∧ (∀ j c, j ≠ i → parts[j]? = some c → ∀ x ∈ c, x ∉ b1 ++ b2) := by
  have hc := List.nodup_cons.1 h
  have hm : ∀ x ∈ b1 ++ b2, x ∈ parts.flatten := fun b hbm => List.mem_flatten.2 ⟨_, List.mem_of_getElem? hp, hbm⟩
  have gen : ∀ (L : List (List Nat)) (i : Nat) (y : List Nat), L.flatten.Nodup → L[i]? = some y → y.Nodup ∧ ∀ j c, j ≠ i → L[j]? = some c → ∀ x ∈ c, x ∉ y := by
    intro L
    induction L with
    | nil => intro i y _ h; simp at h
    | cons z L ih =>
      intro i y hn hy
      rw [List.flatten_cons] at hn
      have hn' := List.nodup_append.1 hn
      cases i with
      | zero =>
        have : z = y := by simpa using hy
        subst this
        refine ⟨hn'.1, fun j c hj hc x hx hx' => ?_⟩
        cases j with
        | zero => exact hj rfl
        | succ j => exact hn'.2.2 x hx' x (List.mem_flatten.2 ⟨c, List.mem_of_getElem? (by simpa using hc), hx⟩) rfl
      | succ i =>
        obtain ⟨h1, h2⟩ := ih i y hn'.2.1 (by simpa using hy)
        refine ⟨h1, fun j c hj hc x hx hx' => ?_⟩
        cases j with
        | zero =>
          have : z = c := by simpa using hc
          subst this
          exact hn'.2.2 x hx x (List.mem_flatten.2 ⟨y, List.mem_of_getElem? (by simpa using hy), hx'⟩) rfl
        | succ j => exact h2 j c (by omega) (by simpa using hc) x hx hx'
  obtain ⟨h1, h2⟩ := gen parts i _ hc.2 hp
  have h3 := List.nodup_append.1 h1
  exact ⟨h3.1, h3.2.1, fun x hx hx' => h3.2.2 x hx x hx' rfl, fun x hx e => hc.1 (e ▸ hm x hx), h2⟩

set_option maxHeartbeats 4000000 in
theorem markStepS_any : ∀ (d : Nat) (T : Tr d) (s : Value) (bs : List Nat) (k : Int) (w : World), Own w d s T bs → bs.Nodup → 0 ≤ k → k + 6 * cnt d T ≤ 33554432 →
    Calls Try.prog 67 #[s, .int .i64 k] w fun e w' => e = .returned (.int .i64 (k + 6 * cnt d T)) ∧ Fr bs w w' ∧ Own w' d s (mkT d k T) bs := by
  intro d
  induction d with
  | zero =>
    intro T s bs k w h _ _ _
    obtain ⟨⟨a, c, rfl⟩, rfl⟩ := h
    go_enter Try.func67, Try.ntmps67
    go_wp2
    refine wp_loop_rounds 1 ?_
    rw [rounds_succ]
    go_wp2
    go_ret
    exact ⟨by simp [cnt], Fr.refl _ _, ⟨⟨_, _, rfl⟩, rfl⟩⟩
  | succ d ih =>
    intro (l : List (Pay × Tr d × Tr d)) s bs k w h hnd hk0 hk1
    have hll := ln_le_cnt (d + 1) (l : List (Pay × Tr d × Tr d))
    have hll' : l.length ≤ cnt (d + 1) (l : List (Pay × Tr d × Tr d)) := hll
    have HO : Hid (Own w (d + 1) s (mix k l 0) bs) := (show Own w (d + 1) s (mix k l 0) bs by rw [mix_zero]; exact h)
    obtain ⟨sa, sc, hsl⟩ := h.slice
    have hsl' : s = .slice sa l.length sc := hsl
    clear hsl
    subst hsl'
    have IH : Hid _ := ih
    have HND : Hid (bs.Nodup) := hnd
    clear ih hll h hnd
    go_enter Try.func67, Try.ntmps67
    go_wp2
    go_loopw [1, 5] (fun o j wr => ∃ (i : Nat) (z : Int), i ≤ l.length ∧ j = .int .i64 i ∧ o = .int .i64 z ∧ Hid (z = k + 6 * (cnt (d + 1) (l.take i : List (Pay × Tr d × Tr d)) : Nat)) ∧ Fr bs w wr ∧ Own wr (d + 1) (.slice sa l.length sc) (mix k l i) bs) (fun _ j _ => l.length - (intOf j).toNat)
    case atStart => exact ⟨0, k, by omega, rfl, rfl, (show k = k + 6 * (cnt (d + 1) (l.take 0 : List (Pay × Tr d × Tr d)) : Nat) by simp [cnt]), Fr.refl _ _, HO.out⟩
    case round =>
      obtain ⟨i, z, hi, rfl, rfl, HZ, hfr, hown⟩ := hrel
      by_cases hlt : i < l.length
      · have hml : (mix k l i).length = l.length := mix_length k l i hi
        rcases hown with ⟨h0, _⟩ | ⟨h0, g, c, parts, hs, hlc, hcm, hth, hpl, hbs, hr⟩
        · exact absurd h0 (by omega)
        rw [hml] at h0 hs hlc hth hpl
        simp only [Value.slice.injEq] at hs
        obtain ⟨rfl, -, rfl⟩ := hs
        obtain ⟨t, e, b1, b2, hpi, hra, o1, o2⟩ := hr i (by omega)
        rw [mix_ge k l i i (Nat.le_refl _) hi (by omega) hlt] at hra o1 o2
        obtain ⟨p, T1, T2, hx⟩ : ∃ p T1 T2, l[i] = (p, T1, T2) := ⟨_, _, _, rfl⟩
        rw [hx] at hra o1 o2
        dsimp only at hra o1 o2
        subst hbs
        obtain ⟨nd1, nd2, dj, ng, dja⟩ := nodup_parts HND.out hpi
        obtain ⟨ta, tc, rfl⟩ := o1.slice
        obtain ⟨ea, ec, rfl⟩ := o2.slice
        obtain ⟨x0, x1, x2, x3, x4, x5, x6, x7⟩ := range8 hra
        have q1 := cnt_take l i hlt
        rw [hx] at q1
        dsimp only at q1
        have q2 := cnt_take_le l (i + 1)
        have hz := HZ.out
        have hzb : 0 ≤ z ∧ z ≤ 33554432 := by omega
        have i0' : (0 : Int) ≤ (i : Int) := by omega
        have i1' : (i : Int) < (l.length : Int) := by omega
        have hfz : ∀ j, j < 8 → wr.frozen? ⟨g, i * 8 + j, none⟩ = false := fun j hj => by
          have := (hth (i * 8 + j) (by omega)).2
          rwa [Nat.zero_add] at this
        have f0 := hfz 0 (by omega)
        have f1 := hfz 1 (by omega)
        have f2 := hfz 2 (by omega)
        have f3 := hfz 3 (by omega)
        have f4 := hfz 4 (by omega)
        have f5 := hfz 5 (by omega)
        rw [Nat.add_zero] at f0
        have v1 := w64 (z + 1) (by omega)
        have v2 := w64 (z + 2) (by omega)
        have v3 := w64 (z + 3) (by omega)
        have v4 := w64 (z + 4) (by omega)
        have v5 := w64 (z + 5) (by omega)
        have v6 := w64 (z + 6) (by omega)
        have F6 : Fr [g] wr (st6 wr g (i * 8) z) := st6_fr wr g (i * 8) z
        have m1 : ∀ b ∈ b1, b ∉ [g] := fun b hb => by have := ng b (List.mem_append_left _ hb); simpa using this
        have m2 : ∀ b ∈ b2, b ∉ [g] := fun b hb => by have := ng b (List.mem_append_right _ hb); simpa using this
        have C1 : Hid (Calls Try.prog 67 #[.slice ta (ln d T1) tc, .int .i64 (z + 6)] (st6 wr g (i * 8) z) fun e w' => e = .returned (.int .i64 (z + 6 + 6 * cnt d T1)) ∧ Fr b1 (st6 wr g (i * 8) z) w' ∧ Own w' d (.slice ta (ln d T1) tc) (mkT d (z + 6) T1) b1) := IH.out T1 (.slice ta (ln d T1) tc) b1 (z + 6) (st6 wr g (i * 8) z) (Own.frame (fun b hb => F6.block b (m1 b hb)) o1) nd1 (by omega) (by omega)
        have y6 : (st6 wr g (i * 8) z).cell? ⟨g, i * 8 + 6, none⟩ = some (.slice ta (ln d T1) tc) := (st6_at z (range8 hra)).2.2.2.2.2.2.1
        have HTH : Hid (wr.there g 0 (l.length * 8)) := hth
        have HR : Hid _ := hr
        have HFR : Hid (Fr (g :: parts.flatten) w wr) := hfr
        have HRA : Hid _ := hra
        have HO2 : Hid _ := o2
        clear hz q1 q2 hth hr hfr hra o1 o2 hfz
        go_wp2_with fail
        rw [show z + 1 + 1 + 1 + 1 + 1 + 1 = z + 6 by omega, show z + 1 + 1 + 1 + 1 + 1 = z + 5 by omega, show z + 1 + 1 + 1 + 1 = z + 4 by omega, show z + 1 + 1 + 1 = z + 3 by omega, show z + 1 + 1 = z + 2 by omega]
        refine Calls.mono C1.out ?_
        rintro e w1 ⟨rfl, fr1, own1⟩
        have ng1 : g ∉ b1 := fun h => m1 g h (by simp)
        have ng2 : g ∉ b2 := fun h => m2 g h (by simp)
        have A6 := st6_at z (range8 HRA.out)
        have hg1 : w1.heap[g]? = (st6 wr g (i * 8) z).heap[g]? := fr1.block g ng1
        have A1 : StepAt w1 g (i * 8) (mkP z) (.slice ta (ln d T1) tc) (.slice ea (ln d T2) ec) := range8 (range_same hg1 (range_at A6))
        obtain ⟨_, _, _, _, _, _, _, y7⟩ := A1
        have o2 : Own w1 d (.slice ea (ln d T2) ec) T2 b2 := Own.frame (fun b hb => (fr1.block b (fun h => dj b h hb)).trans (F6.block b (m2 b hb))) HO2.out
        have q1 := cnt_take l i hlt
        rw [hx] at q1
        dsimp only at q1
        have q2 := cnt_take_le l (i + 1)
        have hz := HZ.out
        have v7 := w64 (z + 6 + 6 * cnt d T1) (by omega)
        have C2 : Hid (Calls Try.prog 67 #[.slice ea (ln d T2) ec, .int .i64 (z + 6 + 6 * cnt d T1)] w1 fun e w' => e = .returned (.int .i64 (z + 6 + 6 * cnt d T1 + 6 * cnt d T2)) ∧ Fr b2 w1 w' ∧ Own w' d (.slice ea (ln d T2) ec) (mkT d (z + 6 + 6 * cnt d T1) T2) b2) := IH.out T2 (.slice ea (ln d T2) ec) b2 (z + 6 + 6 * cnt d T1) w1 o2 nd2 (by omega) (by omega)
        have HOW1 : Hid (Own w1 d (.slice ta (ln d T1) tc) (mkT d (z + 6) T1) b1) := own1
        have HF1 : Hid (Fr b1 (st6 wr g (i * 8) z) w1) := fr1
        have HQ1 : Hid _ := q1
        clear x0 x1 x2 x3 x4 x5 x6 x7 f0 f1 f2 f3 f4 f5 v1 v2 v3 v4 v5 v6 y6 own1 fr1 o2 q1 q2 hz C1 hg1 A6
        go_wp2_with fail
        refine Calls.mono C2.out ?_
        rintro e w2 ⟨rfl, fr2, own2⟩
        clear y7 C2
        go_wp2
        have q1 := HQ1.out
        have hz := HZ.out
        have hsub1 : ∀ x ∈ b1, x ∈ g :: parts.flatten := fun x hx => List.mem_cons_of_mem _ (List.mem_flatten.2 ⟨_, List.mem_of_getElem? hpi, List.mem_append_left _ hx⟩)
        have hsub2 : ∀ x ∈ b2, x ∈ g :: parts.flatten := fun x hx => List.mem_cons_of_mem _ (List.mem_flatten.2 ⟨_, List.mem_of_getElem? hpi, List.mem_append_right _ hx⟩)
        have FF : Fr (g :: parts.flatten) wr w2 := ((F6.mono (by simp)).trans (HF1.out.mono hsub1)).trans (fr2.mono hsub2)
        have hg2 : w2.heap[g]? = (st6 wr g (i * 8) z).heap[g]? := (fr2.block g ng2).trans (HF1.out.block g ng1)
        have hoth : ∀ b, b ≠ g → b ∉ b1 → b ∉ b2 → w2.heap[b]? = wr.heap[b]? := fun b h0 h1 h2 => (fr2.block b h2).trans ((HF1.out.block b h1).trans (F6.block b (by simpa using h0)))
        refine ⟨⟨i + 1, _, by omega, by simp, rfl, ?_, HFR.out.trans FF, .inr ?_⟩, by simp [intOf]; omega⟩
        · show z + 6 + 6 * (cnt d T1 : Int) + 6 * (cnt d T2 : Int) = k + 6 * (cnt (d + 1) (l.take (i + 1) : List (Pay × Tr d × Tr d)) : Nat)
          rw [q1]; omega
        · have hml' : (mix k l (i + 1)).length = l.length := mix_length k l (i + 1) (by omega)
          refine ⟨by omega, g, sc, parts, by rw [hml'], by omega, hcm, ?_, by omega, rfl, fun q hq => ?_⟩
          · rw [hml']; exact there_same hg2 (st6_there z HTH.out)
          · have hql : q < l.length := by omega
            by_cases hqi : q = i
            · subst hqi
              rw [mix_lt k l (q + 1) q (by omega) (by omega) hq (by rw [mkL_length]; exact hql), mkL_get (mkT d) l k q hql (by rw [mkL_length]; exact hql), hx, ← hz]
              refine ⟨.slice ta (ln d T1) tc, .slice ea (ln d T2) ec, b1, b2, hpi, range_same hg2 (range_at (st6_at z (range8 HRA.out))), ?_, own2⟩
              exact Own.frame (fun b hb => fr2.block b (dj b hb)) HOW1.out
            · obtain ⟨t', e', c1, c2, hpq, hraq, oq1, oq2⟩ := HR.out q (by omega)
              have hsame : (mix k l (i + 1))[q] = (mix k l i)[q]'(by omega) := by
                rcases Nat.lt_or_ge q i with h | h
                · rw [mix_lt k l (i + 1) q (by omega) (by omega) hq (by rw [mkL_length]; exact hql), mix_lt k l i q h hi (by omega) (by rw [mkL_length]; exact hql)]
                · rw [mix_ge k l (i + 1) q (by omega) (by omega) hq hql, mix_ge k l i q h hi (by omega) hql]
              rw [hsame]
              have hd := dja q _ hqi hpq
              have hgq : ∀ x ∈ c1 ++ c2, x ≠ g := (nodup_parts HND.out hpq).2.2.2.1
              refine ⟨t', e', c1, c2, hpq, range_same hg2 (st6_range z hraq (by simp [cells8]; omega)), ?_, ?_⟩
              · exact Own.frame (fun b hb => by
                  have h1 := hd b (List.mem_append_left _ hb)
                  exact hoth b (hgq b (List.mem_append_left _ hb)) (fun h => h1 (List.mem_append_left _ h)) (fun h => h1 (List.mem_append_right _ h))) oq1
              · exact Own.frame (fun b hb => by
                  have h1 := hd b (List.mem_append_right _ hb)
                  exact hoth b (hgq b (List.mem_append_right _ hb)) (fun h => h1 (List.mem_append_left _ h)) (fun h => h1 (List.mem_append_right _ h))) oq2
      · have hie : i = l.length := by omega
        subst hie
        rw [mix_all] at hown
        have HOW : Hid _ := hown
        have HFR : Hid _ := hfr
        clear hown hfr
        go_wp2
        go_ret
        have hz := HZ.out
        rw [List.take_length] at hz
        exact ⟨by rw [hz]; rfl, HFR.out, HOW.out⟩

end Go.Proofs.Ytlhfbhidgabgbaa
