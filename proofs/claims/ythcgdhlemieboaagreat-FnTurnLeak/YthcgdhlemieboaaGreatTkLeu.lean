/- A fine program tells nobody too much, and deceives nobody: what is said of the first pair. -/
import Derived.Test.YthcgdhlemieboaaGreatTkTia
import Derived.Test.YthcgdhlemieboaaGreatTkNin
import Derived.Test.YthcgdhlemieboaaGreatTkTmw
namespace Go.Proofs.YthcgdhlemieboaaGreat
open Go.RowKit
set_option linter.unusedSimpArgs false
set_option linter.unusedVariables false

theorem setV_eqvL {K : Int × Int → Bool} {ls : List (Int × Int)} {ks : List Bool} (hk : ∀ i (h1 : i < ls.length), ks.getD i true = K ls[i]) (hkl : ks.length = ls.length) {ws us : List (Int × Int)} (h1 : ∀ x ∈ ws, vIn ls.length x.1 = true) (h2 : ∀ x ∈ us, vIn ls.length x.1 = true) (h : ws.filter (fun x => K (lab ls x.1)) = us.filter (fun x => K (lab ls x.1))) : setV ks ws = setV ks us := by
  have e : ∀ v : Int, vIn ls.length v = true → setB ks v = K (lab ls v) := by
    intro v hv
    unfold vIn at hv
    simp at hv
    have hll : v.toNat < ls.length := by omega
    unfold setB lab vIn
    rw [List.getD_eq_getElem?_getD, List.getD_eq_getElem?_getD, List.getElem?_eq_getElem hll, List.getElem?_eq_getElem (by omega)]
    have := hk v.toNat hll
    rw [List.getD_eq_getElem?_getD, List.getElem?_eq_getElem (by omega)] at this
    simp only [Option.getD_some] at this ⊢
    rw [this, decide_eq_true (by omega : (0 : Int) ≤ v), decide_eq_true (by omega : v < (ks.length : Int))]
    rfl
  unfold setV
  rw [List.filter_congr (fun x hx => e x.1 (h1 x hx)), List.filter_congr (fun x hx => e x.1 (h2 x hx))]
  exact h
theorem bits_ten {k n : Nat} (hk : k < 16) (hn : n ≤ 4) : tenB (bitsL k n) = true := by
  refine List.all_eq_true.2 fun x hx => ?_
  rcases bits01 hk hn x hx with rfl | rfl <;> decide
theorem bits_nums {ls : List (Int × Int)} {d : Nat} {T : Tr d} {k : Nat} (hp : progB ls d T = true) (hl : ls.length ≤ 4) (hk : k < 2 ^ ls.length) : numsB ls d T (bitsL k ls.length) = true := by
  unfold numsB
  rw [hp, bits_ten (Nat.lt_of_lt_of_le hk (two_pow16 hl)) hl, bitsL_len]
  simp
theorem prog_parts {ls : List (Int × Int)} {d : Nat} {T : Tr d} (hp : progB ls d T = true) : ls.length ≤ 4 ∧ labsB ls = true ∧ stB ls.length d 3 T = true := by
  unfold progB at hp
  simp only [Bool.and_eq_true_iff, decide_eq_true_eq] at hp
  exact ⟨by omega, hp.2.1, hp.2.2.1⟩
theorem kn_at {f : Int × Int → Int} {ls : List (Int × Int)} {h : Int} (h0 : 0 ≤ h) (h3 : h < 3) (i : Nat) (h1 : i < ls.length) : (ls.map fun a => hosB (f a) h).getD i true = hasB (f ls[i]) h := by
  rw [List.getD_eq_getElem?_getD, List.getElem?_map, List.getElem?_eq_getElem h1]
  simp [hosB, h0, h3]
theorem eqv_rows {f : Int × Int → Int} {ls : List (Int × Int)} {tl : Option Int} {h : Int} (h0 : 0 ≤ h) (h3 : h < 3) {xs ys : List Int} (hx : xs.length = ls.length) (hy : ys.length = ls.length) (hs : sameB (ls.map fun a => hosB (f a) h) xs ys = true) :
    Eqv (fun a => hasB (f a) h) ls tl ⟨xs, [], []⟩ ⟨ys, [], []⟩ := by
  refine ⟨by show xs.length = ys.length; omega, fun i hi => ?_, rfl, fun _ _ => rfl⟩
  show xs.getD i 0 = ys.getD i 0
  by_cases hlt : i < ls.length
  · have e : lab ls (i : Int) = ls[i] := by unfold lab; rw [Int.toNat_natCast]; simp [hlt]
    rw [e] at hi
    refine sameB_at hs i (by simpa using hlt) ?_
    have := kn_at (f := f) h0 h3 i hlt
    rw [List.getD_eq_getElem?_getD] at this ⊢
    rw [List.getElem?_map, List.getElem?_eq_getElem hlt] at this ⊢
    simp only [Option.map_some, Option.getD_some] at this ⊢
    rw [this]; exact hi
  · rw [List.getD_eq_getElem?_getD, List.getD_eq_getElem?_getD, List.getElem?_eq_none (by omega), List.getElem?_eq_none (by omega)]
theorem fine_no_sway {ls : List (Int × Int)} {d : Nat} {T : Tr d} {h : Int} {k i : Nat} (hp : progB ls d T = true) (ha : AllF ls (prs ls d T topL)) (h0 : 0 ≤ h) (h3 : h < 3) (hf : FirstP (swayP ls d T (trustL ls h)) (2 ^ ls.length) (some (k, i))) : False := by
  obtain ⟨hl, hlab, hst⟩ := prog_parts hp
  obtain ⟨hs, hne⟩ := sway_yes hf
  have hi := hf.1
  have hk : k < 2 ^ ls.length := Nat.lt_trans hf.2.1 hi
  refine hne ?_
  have e := nin (say_trust h0 (by omega)) hlab (tel_none (K := fun a => hasB a.2 h) (ls := ls)) d T 3 topL _ _ topL_ok hst ha (eqv_rows (f := fun a => a.2) (tl := none) h0 h3 (bitsL_len k ls.length) (bitsL_len i ls.length) hs)
  have e1 : runS ls d T (bitsL k ls.length) = doT d T ⟨bitsL k ls.length, [], []⟩ := by unfold runS; rw [if_pos (bits_nums hp hl hk)]
  have e2 : runS ls d T (bitsL i ls.length) = doT d T ⟨bitsL i ls.length, [], []⟩ := by unfold runS; rw [if_pos (bits_nums hp hl hi)]
  rw [e1, e2]
  refine setV_eqvL (K := fun a => hasB a.2 h) (fun q hq => kn_at (f := fun a => a.2) h0 h3 q hq) (by simp [trustL]) ?_ ?_ e.2.2.1
  · exact doT_vars d T ls.length 3 ⟨bitsL k ls.length, [], []⟩ hst (by simp)
  · exact doT_vars d T ls.length 3 ⟨bitsL i ls.length, [], []⟩ hst (by simp)

end Go.Proofs.YthcgdhlemieboaaGreat

namespace Go.Proofs.YthcgdhlemieboaaGreat
open Go.RowKit
set_option linter.unusedSimpArgs false
set_option linter.unusedVariables false

theorem FirstP.congr {P Q : Nat → Nat → Bool} {N : Nat} (h : ∀ k i, k < N → i < N → P k i = Q k i) : ∀ {o : Option (Nat × Nat)}, FirstP P N o → FirstP Q N o
  | none, hf => fun i hi k hk => by rw [← h k i (by omega) hi]; exact hf i hi k hk
  | some (k, i), ⟨h1, h2, h3, h4, h5⟩ => ⟨h1, h2, by rw [← h k i (by omega) h1]; exact h3, fun i' hi' k' hk' => by rw [← h k' i' (by omega) (by omega)]; exact h4 i' hi' k' hk', fun k' hk' => by rw [← h k' i (by omega) h1]; exact h5 k' hk'⟩
theorem know_turn {zs : List Int} (hr : rowB zs 3 = true) {ls : List (Int × Int)} (hl : labsB ls = true) (n : Nat) (hn : n < 3) : knowL (turnLs zs ls) (zs.getD n 0) = knowL ls (n : Int) := by
  have hz : 0 ≤ zs.getD n 0 ∧ zs.getD n 0 < 3 := by
    have hl3 := rowB_len hr
    have := rowB_in hr n (by omega)
    rw [List.getD_eq_getElem?_getD, List.getElem?_eq_getElem (by omega), Option.getD_some]
    exact this
  refine List.ext_getElem (by simp [knowL, turnLs]) fun i h1 h2 => ?_
  have hi : i < ls.length := by simpa [knowL] using h2
  obtain ⟨⟨a0, a7⟩, -⟩ := labs_at hl i hi
  have := turn_has hr a0 a7 n hn
  have l : (knowL (turnLs zs ls) (zs.getD n 0))[i] = hosB (turnI ls[i].1 zs) (zs.getD n 0) := by simp only [knowL, turnLs, List.getElem_map]
  have r : (knowL ls (n : Int))[i] = hosB ls[i].1 (n : Int) := by simp only [knowL, List.getElem_map]
  rw [l, r]
  have e1 : decide (0 ≤ zs.getD n 0) = true := decide_eq_true hz.1
  have e2 : decide (zs.getD n 0 < 3) = true := decide_eq_true hz.2
  have e3 : decide ((0 : Int) ≤ (n : Int)) = true := decide_eq_true (by omega)
  have e4 : decide ((n : Int) < 3) = true := decide_eq_true (by omega)
  unfold hosB
  rw [this, e1, e2, e3, e4]
theorem leakP_turn {zs : List Int} {ls : List (Int × Int)} {d : Nat} {T : Tr d} (hok : tpOk zs ls d T = true) (n : Nat) (hn : n < 3) (k i : Nat) (hk : k < 2 ^ ls.length) (hi : i < 2 ^ ls.length) :
    leakP ls d T (knowL ls (n : Int)) (n : Int) k i = leakP (tpL zs ls d T) d (tpT zs ls d T) (knowL (tpL zs ls d T) (zs.getD n 0)) (zs.getD n 0) k i := by
  obtain ⟨hp, hr, hq, -⟩ := turned_back hok
  have e1 : tpL zs ls d T = turnLs zs ls := by unfold tpL; rw [if_pos hok]
  obtain ⟨hl, hlab, -⟩ := prog_parts hp
  have ht := fun j (hj : j < 2 ^ ls.length) => (turn_run hok (bitsL_len j ls.length) (bits_ten (Nat.lt_of_lt_of_le hj (two_pow16 hl)) hl)).2.2.2.2 n hn
  have hlen : (tpL zs ls d T).length = ls.length := by rw [e1, turnLs_len]
  unfold leakP
  rw [hlen, ht k hk, ht i hi]
  rw [show knowL (tpL zs ls d T) (zs.getD n 0) = knowL ls (n : Int) by rw [e1]; exact know_turn hr hlab n hn]
theorem row120 : rowB [1, 2, 0] 3 = true := by decide
theorem tp120 {ls : List (Int × Int)} {d : Nat} {T : Tr d} (h : progB ls d T = true) : tpOk [1, 2, 0] ls d T = true := by unfold tpOk; rw [h, row120]; rfl
theorem first_turn {ls : List (Int × Int)} {d : Nat} {T : Tr d} (hp : progB ls d T = true) (n : Nat) (hn : n < 3) {o : Option (Nat × Nat)} (hf : FirstP (leakP ls d T (knowL ls (n : Int)) (n : Int)) (2 ^ ls.length) o) :
    FirstP (leakP (tpL [1, 2, 0] ls d T) d (tpT [1, 2, 0] ls d T) (knowL (tpL [1, 2, 0] ls d T) (([1, 2, 0] : List Int).getD n 0)) (([1, 2, 0] : List Int).getD n 0)) (2 ^ ls.length) o :=
  hf.congr (fun k i hk hi => leakP_turn (tp120 hp) n hn k i hk hi)
theorem tp_facts {ls : List (Int × Int)} {d : Nat} {T : Tr d} (hp : progB ls d T = true) : progB (tpL [1, 2, 0] ls d T) d (tpT [1, 2, 0] ls d T) = true ∧ (tpL [1, 2, 0] ls d T).length = ls.length := by
  obtain ⟨-, -, hq, -⟩ := turned_back (tp120 hp)
  refine ⟨hq, ?_⟩
  unfold tpL
  rw [if_pos (tp120 hp), turnLs_len]

end Go.Proofs.YthcgdhlemieboaaGreat
