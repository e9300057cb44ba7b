/- What is said of rows of bits, and of steps that tell; small comparisons of the leak laws. -/
import Derived.Test.YtlhfbhidgabgbaaLsLej
import Derived.Test.YtlhfbhidgabgbaaLsLsm
namespace Go.Proofs.Ytlhfbhidgabgbaa
open Go.RowKit
set_option linter.unusedSimpArgs false
set_option linter.unusedVariables false
attribute [local go_sem] World.cell?_alloc_some

theorem bits01 {k n : Nat} (h : k < 16) (hn : n ≤ 4) : ∀ x ∈ bitsL k n, x = 0 ∨ x = 1 := by
  have H : ∀ n : Nat, n < 5 → ∀ k : Nat, k < 16 → ((bitsL k n).all fun x => decide (x = 0 ∨ x = 1)) = true := by decide +kernel
  intro x hx
  simpa using List.all_eq_true.1 (H n (by omega) k h) x hx
theorem two_pow16 {n : Nat} (hn : n ≤ 4) : 2 ^ n ≤ 16 := Nat.le_trans (Nat.pow_le_pow_right (by omega) hn) (by decide)
theorem bits_inj {k i n : Nat} (hn : n ≤ 4) (hk : k < 2 ^ n) (hi : i < 2 ^ n) (h : bitsL k n = bitsL i n) : k = i := by
  have H : ∀ n : Nat, n < 5 → ∀ k : Nat, k < 16 → ∀ i : Nat, i < 16 → (!decide (k < 2 ^ n) || !decide (i < 2 ^ n) || !decide (bitsL k n = bitsL i n) || decide (k = i)) = true := by decide +kernel
  have := H n (by omega) k (Nat.lt_of_lt_of_le hk (two_pow16 hn)) i (Nat.lt_of_lt_of_le hi (two_pow16 hn))
  simpa [hk, hi, h] using this
theorem bits_of {xs : List Int} {n : Nat} (hn : n ≤ 4) (hl : xs.length = n) (h : ∀ x ∈ xs, x = 0 ∨ x = 1) : ∃ k, k < 2 ^ n ∧ bitsL k n = xs := by
  subst hl
  match xs, hn, h with
  | [], _, _ => exact ⟨0, by decide, by decide⟩
  | [a], _, h =>
    obtain rfl | rfl := h a (by simp)
    · exact ⟨0, by decide, by decide⟩
    · exact ⟨1, by decide, by decide⟩
  | [a, b], _, h =>
    obtain rfl | rfl := h a (by simp) <;> obtain rfl | rfl := h b (by simp)
    · exact ⟨0, by decide, by decide⟩
    · exact ⟨2, by decide, by decide⟩
    · exact ⟨1, by decide, by decide⟩
    · exact ⟨3, by decide, by decide⟩
  | [a, b, c], _, h =>
    obtain rfl | rfl := h a (by simp) <;> obtain rfl | rfl := h b (by simp) <;> obtain rfl | rfl := h c (by simp)
    · exact ⟨0, by decide, by decide⟩
    · exact ⟨4, by decide, by decide⟩
    · exact ⟨2, by decide, by decide⟩
    · exact ⟨6, by decide, by decide⟩
    · exact ⟨1, by decide, by decide⟩
    · exact ⟨5, by decide, by decide⟩
    · exact ⟨3, by decide, by decide⟩
    · exact ⟨7, by decide, by decide⟩
  | [a, b, c, e], _, h =>
    obtain rfl | rfl := h a (by simp) <;> obtain rfl | rfl := h b (by simp) <;> obtain rfl | rfl := h c (by simp) <;> obtain rfl | rfl := h e (by simp)
    · exact ⟨0, by decide, by decide⟩
    · exact ⟨8, by decide, by decide⟩
    · exact ⟨4, by decide, by decide⟩
    · exact ⟨12, by decide, by decide⟩
    · exact ⟨2, by decide, by decide⟩
    · exact ⟨10, by decide, by decide⟩
    · exact ⟨6, by decide, by decide⟩
    · exact ⟨14, by decide, by decide⟩
    · exact ⟨1, by decide, by decide⟩
    · exact ⟨9, by decide, by decide⟩
    · exact ⟨5, by decide, by decide⟩
    · exact ⟨13, by decide, by decide⟩
    · exact ⟨3, by decide, by decide⟩
    · exact ⟨11, by decide, by decide⟩
    · exact ⟨7, by decide, by decide⟩
    · exact ⟨15, by decide, by decide⟩
  | a :: b :: c :: e :: f :: g, hn, _ => simp at hn

theorem sameB_at {ks : List Bool} {xs ys : List Int} (h : sameB ks xs ys = true) (q : Nat) (hq : q < ks.length) (hk : ks.getD q false = true) : xs.getD q 0 = ys.getD q 0 := by
  have := List.all_eq_true.1 h q (List.mem_range.2 hq)
  simp only [hk, Bool.not_true, Bool.false_or, decide_eq_true_eq] at this
  exact this
theorem sameB_get {ks : List Bool} {xs ys : List Int} (h : sameB ks xs ys = true) (i : Nat) (h1 : i < xs.length) (h2 : i < ys.length) (h3 : i < ks.length) (hk : ks[i] = true) : xs[i] = ys[i] := by
  have := sameB_at h i h3 (by rw [List.getD_eq_getElem?_getD, List.getElem?_eq_getElem h3]; exact hk)
  rwa [List.getD_eq_getElem?_getD, List.getD_eq_getElem?_getD, List.getElem?_eq_getElem h1, List.getElem?_eq_getElem h2] at this
theorem sameB_symm {ks : List Bool} {xs ys : List Int} : sameB ks xs ys = sameB ks ys xs := by
  unfold sameB
  congr 1
  funext i
  rw [show (decide (xs.getD i 0 = ys.getD i 0)) = decide (ys.getD i 0 = xs.getD i 0) from decide_eq_decide.2 ⟨Eq.symm, Eq.symm⟩]
theorem leakP_symm {ls : List (Int × Int)} {d : Nat} {T : Tr d} {ks : List Bool} {h : Int} (k i : Nat) : leakP ls d T ks h k i = leakP ls d T ks h i k := by
  unfold leakP
  rw [sameB_symm, show decide (toH h (runS ls d T (bitsL k ls.length)).ss = toH h (runS ls d T (bitsL i ls.length)).ss) = decide (toH h (runS ls d T (bitsL i ls.length)).ss = toH h (runS ls d T (bitsL k ls.length)).ss) from decide_eq_decide.2 ⟨Eq.symm, Eq.symm⟩]
theorem swayP_symm {ls : List (Int × Int)} {d : Nat} {T : Tr d} {ks : List Bool} (k i : Nat) : swayP ls d T ks k i = swayP ls d T ks i k := by
  unfold swayP
  rw [sameB_symm, show decide (setV ks (runS ls d T (bitsL k ls.length)).ws = setV ks (runS ls d T (bitsL i ls.length)).ws) = decide (setV ks (runS ls d T (bitsL i ls.length)).ws = setV ks (runS ls d T (bitsL k ls.length)).ws) from decide_eq_decide.2 ⟨Eq.symm, Eq.symm⟩]
/-- Two rows of bits that are the same in what matters are told the same, if there is no first pair. -/
theorem leak_none {ls : List (Int × Int)} {d : Nat} {T : Tr d} {ks : List Bool} {h : Int} (hp : ls.length ≤ 4) (hn : FirstP (leakP ls d T ks h) (2 ^ ls.length) none) {xs ys : List Int} (hx : xs.length = ls.length) (hy : ys.length = ls.length) (bx : ∀ x ∈ xs, x = 0 ∨ x = 1) (by' : ∀ x ∈ ys, x = 0 ∨ x = 1) (hs : sameB ks xs ys = true) :
    toH h (runS ls d T xs).ss = toH h (runS ls d T ys).ss := by
  obtain ⟨k, hk, rfl⟩ := bits_of hp hx bx
  obtain ⟨i, hi, rfl⟩ := bits_of hp hy by'
  have : leakP ls d T ks h k i = false ∨ k = i := by
    rcases Nat.lt_trichotomy k i with e | e | e
    · exact .inl (hn i hi k e)
    · exact .inr e
    · exact .inl (by rw [leakP_symm]; exact hn k hk i e)
  rcases this with e | rfl
  · unfold leakP at e
    rw [hs] at e
    simpa using e
  · rfl
theorem sway_none {ls : List (Int × Int)} {d : Nat} {T : Tr d} {ks : List Bool} (hp : ls.length ≤ 4) (hn : FirstP (swayP ls d T ks) (2 ^ ls.length) none) {xs ys : List Int} (hx : xs.length = ls.length) (hy : ys.length = ls.length) (bx : ∀ x ∈ xs, x = 0 ∨ x = 1) (by' : ∀ x ∈ ys, x = 0 ∨ x = 1) (hs : sameB ks xs ys = true) :
    setV ks (runS ls d T xs).ws = setV ks (runS ls d T ys).ws := by
  obtain ⟨k, hk, rfl⟩ := bits_of hp hx bx
  obtain ⟨i, hi, rfl⟩ := bits_of hp hy by'
  have : swayP ls d T ks k i = false ∨ k = i := by
    rcases Nat.lt_trichotomy k i with e | e | e
    · exact .inl (hn i hi k e)
    · exact .inr e
    · exact .inl (by rw [swayP_symm]; exact hn k hk i e)
  rcases this with e | rfl
  · unfold swayP at e
    rw [hs] at e
    simpa using e
  · rfl
theorem leak_yes {ls : List (Int × Int)} {d : Nat} {T : Tr d} {ks : List Bool} {h : Int} {k i : Nat} (hp : FirstP (leakP ls d T ks h) (2 ^ ls.length) (some (k, i))) :
    sameB ks (bitsL k ls.length) (bitsL i ls.length) = true ∧ toH h (runS ls d T (bitsL k ls.length)).ss ≠ toH h (runS ls d T (bitsL i ls.length)).ss := by
  have e := hp.2.2.1
  unfold leakP at e
  simpa using e
theorem sway_yes {ls : List (Int × Int)} {d : Nat} {T : Tr d} {ks : List Bool} {k i : Nat} (hp : FirstP (swayP ls d T ks) (2 ^ ls.length) (some (k, i))) :
    sameB ks (bitsL k ls.length) (bitsL i ls.length) = true ∧ setV ks (runS ls d T (bitsL k ls.length)).ws ≠ setV ks (runS ls d T (bitsL i ls.length)).ws := by
  have e := hp.2.2.1
  unfold swayP at e
  simpa using e
/-- Rows that differ don't agree in all. -/
theorem same_not_all {n k i : Nat} {ks : List Bool} (hn : n ≤ 4) (hi : i < 2 ^ n) (hki : k < i) (hkl : ks.length = n) (hs : sameB ks (bitsL k n) (bitsL i n) = true) : ks.all id = false := by
  cases h : ks.all id with
  | false => rfl
  | true =>
    exfalso
    have : bitsL k n = bitsL i n := by
      refine List.ext_getElem (by simp [bitsL]) fun q h1 h2 => ?_
      have hq : q < ks.length := by simpa [bitsL, hkl] using h1
      exact sameB_get hs q h1 h2 hq (List.all_eq_true.1 h _ (List.getElem_mem hq))
    have := bits_inj hn (by omega) hi this
    omega
/-- What is set of none is nothing. -/
theorem setV_none {ks : List Bool} (h : ks.any id = false) (ws : List (Int × Int)) (hw : ∀ x ∈ ws, setB ks x.1 = true → ks.any id = true) : setV ks ws = [] := by
  unfold setV
  refine List.filter_eq_nil_iff.2 fun x hx => ?_
  intro e
  have := hw x hx (by simpa using e)
  rw [h] at this
  cases this

/-- Whether a step tells a host something. -/
def tellB (h : Int) : (d : Nat) → Tr d → Bool
  | 0, _ => false
  | d + 1, (l : List (Pay × Tr d × Tr d)) => l.any fun x => (decide (x.1.k = 3) && decide (x.1.h = h)) || tellB h d x.2.1 || tellB h d x.2.2
theorem doT_tells (h : Int) : ∀ (d : Nat) (T : Tr d) (s : RSt), tellB h d T = false → (∀ x ∈ s.ss, x.1 ≠ h) → ∀ x ∈ (doT d T s).ss, x.1 ≠ h
  | 0, _, s, _, hh => hh
  | d + 1, (l : List (Pay × Tr d × Tr d)), s, hs, hh => by
    show ∀ x ∈ (l.foldl (fun s x => stepS (doT d) x s) s).ss, x.1 ≠ h
    have hs' : (l.any fun x => (decide (x.1.k = 3) && decide (x.1.h = h)) || tellB h d x.2.1 || tellB h d x.2.2) = false := hs
    clear hs
    induction l generalizing s with
    | nil => exact hh
    | cons y l ih =>
      rw [List.any_cons, Bool.or_eq_false_iff] at hs'
      obtain ⟨hx, hr⟩ := hs'
      simp only [Bool.or_eq_false_iff, Bool.and_eq_false_iff, decide_eq_false_iff_not] at hx
      obtain ⟨⟨hp, h1⟩, h2⟩ := hx
      rw [List.foldl_cons]
      refine ih _ ?_ hr
      unfold stepS
      split
      · exact hh
      · split
        · rename_i hk1 hk3
          intro x hx
          rcases List.mem_append.1 hx with hx | hx
          · exact hh x hx
          · obtain rfl : x = _ := by simpa using hx
            rcases hp with hp | hp
            · exact (hp hk3).elim
            · exact hp
        · split
          · exact doT_tells h d _ s h1 hh
          · exact doT_tells h d _ s h2 hh
theorem toH_none {h : Int} {ls : List (Int × Int)} {d : Nat} {T : Tr d} (ht : tellB h d T = false) (zs : List Int) : toH h (runS ls d T zs).ss = [] := by
  have : ∀ x ∈ (runS ls d T zs).ss, x.1 ≠ h := by
    unfold runS
    split
    · exact doT_tells h d T _ ht (fun x hx => by simp at hx)
    · intro x hx; simp at hx
  unfold toH
  rw [List.filter_eq_nil_iff.2 (fun x hx => by simpa using this x hx)]
  rfl

set_option maxHeartbeats 8000000 in
set_option maxRecDepth 20000 in
theorem lcTells_any (h : Int) : ∀ (d : Nat) (T : Tr d) (v : Value) (w : World), Rep w d v T →
    Calls Try.prog 22 #[v, .int .i64 h] w fun e w' => e = .returned (.bool (tellB h d T)) ∧ Below w.heap.size w w' := by
  intro d
  induction d with
  | zero =>
    rintro T v w ⟨a, c, rfl⟩
    go_enter Try.func22, Try.ntmps22
    go_wp2_with fail
    go_loopw [5] (fun j wr => j = .int .i64 0 ∧ wr = w) (fun _ _ => 0)
    case atStart => exact ⟨rfl, rfl⟩
    case round =>
      obtain ⟨rfl, rfl⟩ := hrel
      go_wp2
      go_ret
      exact ⟨rfl, Below.refl _ _⟩
  | succ d ih =>
    rintro (l : List (Pay × Tr d × Tr d)) v w ⟨a, c, rfl, hlc, hcm, hcell⟩
    have hlm : (l.length : Int) ≤ 9223372036854775807 := by unfold maxLen at hcm; omega
    have HC : Hid _ := hcell
    have IH : Hid _ := ih
    have HTB : Hid (tellB h (d + 1) (l : List (Pay × Tr d × Tr d)) = l.any fun x => (decide (x.1.k = 3) && decide (x.1.h = h)) || tellB h d x.2.1 || tellB h d x.2.2) := rfl
    obtain ⟨tb, htb⟩ : ∃ x, tellB h (d + 1) (l : List (Pay × Tr d × Tr d)) = x := ⟨_, rfl⟩
    rw [htb] at HTB ⊢
    clear hcell ih htb
    go_enter Try.func22, Try.ntmps22
    go_wp2_with fail
    go_loopw [5] (fun j wr => ∃ (i : Nat), i ≤ l.length ∧ j = .int .i64 i ∧ Below w.heap.size w wr ∧ Hid (∀ q (hq : q < l.length), q < i → ((decide (l[q].1.k = 3) && decide (l[q].1.h = h)) || tellB h d l[q].2.1 || tellB h d l[q].2.2) = false)) (fun j _ => l.length - (intOf j).toNat)
    case atStart => exact ⟨0, by omega, rfl, Below.refl _ _, (show ∀ q (hq : q < l.length), q < 0 → _ from fun q _ h => by omega)⟩
    case round =>
      obtain ⟨i, hi, rfl, hbr, HQ⟩ := hrel
      by_cases hlt : i < l.length
      · obtain ⟨b0, o0, vt0, ve0, rfl, ⟨m00, m01, m02, m03, m04, m05, m06, m07⟩, rt0, re0⟩ := HC.out i hlt
        have HAT : Hid (∀ x, ((decide (l[i].1.k = 3) && decide (l[i].1.h = h)) || tellB h d l[i].2.1 || tellB h d l[i].2.2) = x → x = true → tb = true) := fun x hx e => by
          rw [HTB.out]
          exact List.any_eq_true.2 ⟨l[i], List.getElem_mem hlt, by rw [hx, e]⟩
        have HNX : Hid (((decide (l[i].1.k = 3) && decide (l[i].1.h = h)) || tellB h d l[i].2.1 || tellB h d l[i].2.2) = false → ∀ q (hq : q < l.length), q < i + 1 → ((decide (l[q].1.k = 3) && decide (l[q].1.h = h)) || tellB h d l[q].2.1 || tellB h d l[q].2.2) = false) := fun hx q hq h1 => by
          by_cases e : q = i
          · subst e; exact hx
          · exact HQ.out q hq (by omega)
        generalize l[i].2.1 = T1 at *
        generalize l[i].2.2 = T2 at *
        generalize l[i].1 = p at *
        obtain ⟨t0, c0, rfl⟩ := rt0.slice
        obtain ⟨e0, g0, rfl⟩ := re0.slice
        have HT : Hid (Rep wr d (.slice t0 (ln d T1) c0) T1 ∧ Rep wr d (.slice e0 (ln d T2) g0) T2) := ⟨rt0.below hbr, re0.below hbr⟩
        replace m00 := cell_later hbr m00
        replace m05 := cell_later hbr m05
        replace m06 := cell_later hbr m06
        replace m07 := cell_later hbr m07
        have HBr : Hid (Below w.heap.size w wr) := hbr
        have i0' : (0 : Int) ≤ (i : Int) := by omega
        have i1' : (i : Int) < (l.length : Int) := by omega
        have hwi : Hid _ := w64 ((i : Int) + 1) (by omega)
        obtain ⟨pk, pv, pvk, pva, pvb, ph⟩ := p
        dsimp only at *
        clear hbr rt0 re0 m01 m02 m03 m04
        by_cases hk : pk = 3 ∧ ph = h
        · obtain ⟨rfl, rfl⟩ := hk
          have HY : Hid _ := HAT.out _ rfl (by simp)
          go_wp2
          go_ret
          exact ⟨by rw [HY.out]; rfl, HBr.out⟩
        · have hk0 : (decide (pk = 3) && decide (ph = h)) = false := by simpa using hk
          have K1 : Hid _ := IH.out T1 _ wr HT.out.1
          obtain ⟨x1, hx1⟩ : ∃ x, tellB h d T1 = x := ⟨_, rfl⟩
          obtain ⟨x2, hx2⟩ : ∃ x, tellB h d T2 = x := ⟨_, rfl⟩
          rw [hk0, hx1, hx2] at HAT HNX
          rw [hx1] at K1
          have HX2 : Hid _ := hx2
          clear hx1 hx2 hk0
          have hkk : ¬ pk = 3 ∨ (pk = 3 ∧ ¬ ph = h) := by
            by_cases e : pk = 3
            · exact .inr ⟨e, fun q => hk ⟨e, q⟩⟩
            · exact .inl e
          clear hk
          rcases hkk with hkk | ⟨rfl, hkk⟩
          · go_wp2_with fail
            (try go_at_call 22); refine Calls.mono K1.out ?_
            rintro e w1 ⟨rfl, hb1⟩
            have B1 : Hid (Below w.heap.size w w1) := Below.then HBr.out hb1 HBr.out.size
            replace m07 := cell_later hb1 m07
            have K2 : Hid _ := IH.out T2 _ w1 (HT.out.2.below hb1)
            rw [HX2.out] at K2
            clear m00 m05 m06 hb1
            cases x1
            · go_wp2_with fail
              (try go_at_call 22); refine Calls.mono K2.out ?_
              rintro e w2 ⟨rfl, hb2⟩
              have B2 : Hid (Below w.heap.size w w2) := Below.then B1.out hb2 B1.out.size
              clear hb2 m07
              cases x2
              · have HN2 : Hid _ := HNX.out rfl
                go_wp2
                first
                  | exact ⟨⟨i + 1, by omega, by rw [show ((i : Int) + 1) = ((i + 1 : Nat) : Int) by omega], B2.out, HN2.out⟩, by simp [intOf]; omega⟩
                  | (refine ⟨⟨i + 1, by omega, ?_, B2.out, HN2.out⟩, ?_⟩
                     · simp [wrap64]; omega
                     · simp [intOf, wrap64]; omega)
              · have HY : Hid _ := HAT.out _ rfl rfl
                go_wp2
                go_ret
                exact ⟨by rw [HY.out]; rfl, B2.out⟩
            · have HY : Hid _ := HAT.out _ rfl rfl
              go_wp2
              go_ret
              exact ⟨by rw [HY.out]; rfl, B1.out⟩
          · go_wp2_with fail
            (try go_at_call 22); refine Calls.mono K1.out ?_
            rintro e w1 ⟨rfl, hb1⟩
            have B1 : Hid (Below w.heap.size w w1) := Below.then HBr.out hb1 HBr.out.size
            replace m07 := cell_later hb1 m07
            have K2 : Hid _ := IH.out T2 _ w1 (HT.out.2.below hb1)
            rw [HX2.out] at K2
            clear m00 m05 m06 hb1
            cases x1
            · go_wp2_with fail
              (try go_at_call 22); refine Calls.mono K2.out ?_
              rintro e w2 ⟨rfl, hb2⟩
              have B2 : Hid (Below w.heap.size w w2) := Below.then B1.out hb2 B1.out.size
              clear hb2 m07
              cases x2
              · have HN2 : Hid _ := HNX.out rfl
                go_wp2
                first
                  | exact ⟨⟨i + 1, by omega, by rw [show ((i : Int) + 1) = ((i + 1 : Nat) : Int) by omega], B2.out, HN2.out⟩, by simp [intOf]; omega⟩
                  | (refine ⟨⟨i + 1, by omega, ?_, B2.out, HN2.out⟩, ?_⟩
                     · simp [wrap64]; omega
                     · simp [intOf, wrap64]; omega)
              · have HY : Hid _ := HAT.out _ rfl rfl
                go_wp2
                go_ret
                exact ⟨by rw [HY.out]; rfl, B2.out⟩
            · have HY : Hid _ := HAT.out _ rfl rfl
              go_wp2
              go_ret
              exact ⟨by rw [HY.out]; rfl, B1.out⟩
      · have hie : i = l.length := by omega
        subst hie
        have HNO : Hid (tb = false) := by
          show tb = false
          rw [HTB.out]
          refine List.any_eq_false.2 fun x hx => ?_
          obtain ⟨q, hq, rfl⟩ := List.getElem_of_mem hx
          simpa using HQ.out q hq hq
        go_wp2
        go_ret
        exact ⟨by rw [HNO.out]; rfl, hbr⟩

set_option maxHeartbeats 4000000 in
theorem lcBits_any {v : Value} {zs : List Int} {w : World} (h : GRep (Value.int .i64) w v zs) (hb : ∀ x ∈ zs, x = 0 ∨ x = 1) :
    Calls Try.prog 20 #[v] w fun e w' => e = .returned (.bool true) ∧ Below w.heap.size w w' := by
  obtain ⟨a, c, rfl, hlc, hcm, hcell⟩ := h
  have hlm : (zs.length : Int) ≤ 9223372036854775807 := by unfold maxLen at hcm; omega
  have HC : Hid (∀ i (hi : i < zs.length), ∃ b off x, a = some ⟨b, off, none⟩ ∧ (x = 0 ∨ x = 1) ∧ w.cell? ⟨b, off + i, none⟩ = some (.int .i64 x)) := fun i hi => by
    obtain ⟨b, off, ha, h0⟩ := hcell i hi
    exact ⟨b, off, _, ha, hb _ (List.getElem_mem hi), h0⟩
  clear hcell hb
  go_enter Try.func20, Try.ntmps20
  go_wp2_with fail
  go_loopw [3] (fun j wr => ∃ (i : Nat), i ≤ zs.length ∧ j = .int .i64 i ∧ wr = w) (fun j _ => zs.length - (intOf j).toNat)
  case atStart => exact ⟨0, by omega, rfl, rfl⟩
  case round =>
    obtain ⟨i, hi, rfl, e⟩ := hrel
    rw [e]
    clear e wr
    by_cases hlt : i < zs.length
    · obtain ⟨b, off, x, rfl, hx, m0⟩ := HC.out i hlt
      have i0' : (0 : Int) ≤ (i : Int) := by omega
      have i1' : (i : Int) < (zs.length : Int) := by omega
      rcases hx with rfl | rfl
      · go_wp2
        exact ⟨⟨i + 1, by omega, by simp, trivial⟩, by simp [intOf]; omega⟩
      · go_wp2
        exact ⟨⟨i + 1, by omega, by simp, trivial⟩, by simp [intOf]; omega⟩
    · have hie : i = zs.length := by omega
      subst hie
      go_wp2
      go_ret
      exact ⟨rfl, Below.refl _ _⟩

#print axioms lcTells_any
end Go.Proofs.Ytlhfbhidgabgbaa
