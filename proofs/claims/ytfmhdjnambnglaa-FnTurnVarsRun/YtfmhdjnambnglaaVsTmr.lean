/- What comes of a program that is turned. -/
import Derived.Test.YtfmhdjnambnglaaVsTmy
import Derived.Test.YtfmhdjnambnglaaVsRtx
import Derived.Test.YtfmhdjnambnglaaVsSrn
namespace Go.Proofs.Ytfmhdjnambnglaa
open Go.RowKit
set_option linter.unusedSimpArgs false
set_option linter.unusedVariables false

theorem row_inj {zs : List Int} {n : Nat} (hr : rowB zs n = true) (hn : n ≤ 4) {a b : Int} (a0 : 0 ≤ a) (a1 : a < n) (b0 : 0 ≤ b) (b1 : b < n) : zs.getD a.toNat 0 = zs.getD b.toNat 0 ↔ a = b := by
  refine ⟨fun h => ?_, fun h => by rw [h]⟩
  have e1 := back_of hr hn a0 a1
  have e2 := back_of hr hn b0 b1
  rw [h] at e1
  exact e1.symm.trans e2
/-- What was told, to hosts by their new names. -/
def toldF (zs : List Int) (s : RSt) : RSt := ⟨s.n, s.ws, s.ss.map fun x => (zs.getD x.1.toNat 0, x.2)⟩
/-- Numbers, and the same of variables by their new names. -/
def VarsR (zs : List Int) (n : Nat) (s s' : RSt) : Prop := s.n.length = n ∧ s'.n.length = n ∧ (∀ v : Int, 0 ≤ v → v < n → s'.n.getD (zs.getD v.toNat 0).toNat 0 = s.n.getD v.toNat 0) ∧ s'.ss = s.ss
theorem numV_turn {zs : List Int} {n : Nat} {s s' : RSt} (hR : VarsR zs n s s') {p : Pay} (hp : okP n p) (hk : p.k = 1) : numV (varF zs p).vk (varF zs p).va (varF zs p).vb s'.n = numV p.vk p.va p.vb s.n := by
  obtain ⟨-, -, hg, -⟩ := hR
  obtain ⟨⟨v0, v1⟩, h⟩ := okP_var hp
  obtain ⟨pk, pv, pvk, pva, pvb, ph⟩ := p
  dsimp only at hk h
  unfold varF numV
  dsimp only
  rcases h with ⟨h1, h⟩ | ⟨_, h⟩ | ⟨_, h, a0, a1⟩ | ⟨_, h, ⟨a0, a1⟩, b0, b1⟩ | ⟨_, h, ⟨a0, a1⟩, b0, b1⟩
  · exact absurd hk h1
  · subst h; rfl
  · subst h
    have := hg _ a0 a1
    simp only [List.getD_eq_getElem?_getD] at this
    simp [this]
  · subst h
    have e1 := hg _ a0 a1
    have e2 := hg _ b0 b1
    simp only [List.getD_eq_getElem?_getD] at e1 e2
    simp [e1, e2]
  · subst h
    have e1 := hg _ a0 a1
    have e2 := hg _ b0 b1
    simp only [List.getD_eq_getElem?_getD] at e1 e2
    simp [e1, e2]
theorem getD_set (l : List Int) (i j : Nat) (x : Int) (hi : i < l.length) : (l.set i x).getD j 0 = if i = j then x else l.getD j 0 := by
  rw [List.getD_eq_getElem?_getD, List.getD_eq_getElem?_getD, List.getElem?_set]
  by_cases h : i = j
  · subst h; rw [if_pos rfl, if_pos rfl, if_pos hi]; rfl
  · rw [if_neg h, if_neg h]
theorem doT_vars_turn {zs : List Int} {n : Nat} (hr : rowB zs n = true) (hn : n ≤ 4) : ∀ (d : Nat) (T : Tr d), allP (okP n) d T → ∀ (s s' : RSt), VarsR zs n s s' → VarsR zs n (doT d T s) (doT d (mapT (varF zs) d T) s')
  | 0, _, _, _, _, h => h
  | d + 1, (l : List (Pay × Tr d × Tr d)), hP, s, s', h => by
    show VarsR zs n (l.foldl (fun s x => stepS (doT d) x s) s) ((l.map fun x => (varF zs x.1, mapT (varF zs) d x.2.1, mapT (varF zs) d x.2.2)).foldl (fun s x => stepS (doT d) x s) s')
    rw [List.foldl_map]
    have hP' : ∀ x ∈ l, okP n x.1 ∧ allP (okP n) d x.2.1 ∧ allP (okP n) d x.2.2 := hP
    clear hP
    induction l generalizing s s' with
    | nil => exact h
    | cons y l ih =>
      rw [List.foldl_cons, List.foldl_cons]
      obtain ⟨hy, hy1, hy2⟩ := hP' y (by simp)
      refine ih _ _ ?_ (fun x hx => hP' x (by simp [hx]))
      obtain ⟨p, T1, T2⟩ := y
      dsimp only at hy hy1 hy2
      obtain ⟨⟨v0, v1⟩, -⟩ := okP_var hy
      have hv := h.2.2.1 p.v v0 v1
      have ek : (varF zs p).k = p.k := rfl
      have ev : (varF zs p).v = zs.getD p.v.toNat 0 := rfl
      have eh : (varF zs p).h = p.h := rfl
      have hN := numV_turn h hy
      unfold stepS
      simp only [ek, ev, eh]
      by_cases h1 : p.k = 1
      · rw [if_pos h1, if_pos h1, hN h1]
        obtain ⟨l1, l2, hg, hs⟩ := h
        obtain ⟨q0, q1⟩ := row_getD hr v0 v1
        refine ⟨by simpa using l1, by simpa using l2, fun v w0 w1 => ?_, hs⟩
        obtain ⟨r0, r1⟩ := row_getD hr w0 w1
        rw [getD_set _ _ _ _ (by omega), getD_set _ _ _ _ (by omega)]
        have e := row_inj hr hn v0 v1 w0 w1
        by_cases hq : p.v = v
        · rw [if_pos (by rw [hq]), if_pos (by rw [hq])]
        · rw [if_neg (fun hh => hq (e.1 (by omega))), if_neg (by omega)]
          exact hg v w0 w1
      · rw [if_neg h1, if_neg h1]
        by_cases h3 : p.k = 3
        · rw [if_pos h3, if_pos h3]
          obtain ⟨l1, l2, hg, hs⟩ := h
          refine ⟨l1, l2, hg, ?_⟩
          show s'.ss ++ [(p.h, s'.n.getD (zs.getD p.v.toNat 0).toNat 0)] = s.ss ++ [(p.h, s.n.getD p.v.toNat 0)]
          rw [hs, hv]
        · rw [if_neg h3, if_neg h3, hv]
          by_cases h0 : s.n.getD p.v.toNat 0 ≠ 0
          · rw [if_pos h0, if_pos h0]; exact doT_vars_turn hr hn d T1 hy1 s s' h
          · rw [if_neg h0, if_neg h0]; exact doT_vars_turn hr hn d T2 hy2 s s' h
/-- With other names of variables each has the number that it had, and hosts are told the same. -/
theorem vars_run {zs : List Int} {ls : List (Int × Int)} {d : Nat} {T : Tr d} {ns ms : List Int} (h : tvOk zs ls d T = true) (hl : ns.length = ls.length) (hl' : ms.length = ls.length) (ht : tenB ns = true) (ht' : tenB ms = true)
    (hm : ∀ i : Nat, i < ls.length → ms.getD (zs.getD i 0).toNat 0 = ns.getD i 0) :
    numsB ls d T ns = true ∧ numsB (tvL zs ls d T) d (tvT zs ls d T) ms = true ∧ (runS (tvL zs ls d T) d (tvT zs ls d T) ms).ss = (runS ls d T ns).ss ∧ (runS ls d T ns).n.length = ls.length ∧ (runS (tvL zs ls d T) d (tvT zs ls d T) ms).n.length = ls.length ∧
    ∀ i : Nat, i < ls.length → (runS (tvL zs ls d T) d (tvT zs ls d T) ms).n.getD (zs.getD i 0).toNat 0 = (runS ls d T ns).n.getD i 0 := by
  obtain ⟨hp, hr, hq0, hq, -⟩ := vars_back h
  have e1 : tvL zs ls d T = movL zs ls := by unfold tvL; rw [if_pos h]
  have e2 : tvT zs ls d T = mapT (varF zs) d T := by unfold tvT; rw [if_pos h]
  rw [e1, e2] at hq ⊢
  obtain ⟨l4, -, hs, -⟩ := progB4 hp
  have n1 : numsB ls d T ns = true := by unfold numsB; rw [hp, ht]; simp [hl]
  have n2 : numsB (movL zs ls) d (mapT (varF zs) d T) ms = true := by unfold numsB; rw [hq, ht', movL_len]; simp [hl']
  have r1 : runS ls d T ns = doT d T ⟨ns, [], []⟩ := by unfold runS; rw [if_pos n1]
  have r2 : runS (movL zs ls) d (mapT (varF zs) d T) ms = doT d (mapT (varF zs) d T) ⟨ms, [], []⟩ := by unfold runS; rw [if_pos n2]
  rw [r1, r2]
  obtain ⟨q1, q2, q3, q4⟩ := doT_vars_turn hr l4 d T (allP_of d 3 T hs) ⟨ns, [], []⟩ ⟨ms, [], []⟩ ⟨hl, hl', fun v v0 v1 => by have := hm v.toNat (by omega); simpa using this, rfl⟩
  refine ⟨n1, n2, q4, q1, q2, fun i hi => ?_⟩
  have := q3 (i : Int) (by omega) (by omega)
  simpa using this

end Go.Proofs.Ytfmhdjnambnglaa
