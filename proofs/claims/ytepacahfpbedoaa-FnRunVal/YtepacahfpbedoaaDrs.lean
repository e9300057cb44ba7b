/- What came of a drawn program, and some variables, as the model draws them. -/
import Derived.Test.YtepacahfpbedoaaNrx
import Derived.Test.YtepacahfpbedoaaBro
namespace Go.Proofs.Ytepacahfpbedoaa
open Go.RowKit
set_option linter.unusedSimpArgs false
set_option linter.unusedVariables false
attribute [local go_sem] World.cell?_alloc_some

theorem isRow_below' {k : IntKind} {w w' : World} {a : Option Addr} {len cap : Nat} {zs : List Int} (h : IsRow k w a len cap zs) (hb : Below w.heap.size w w') : IsRow k w' a len cap zs := by
  rcases h with h | ⟨x, h0, h1, h2, h3, h4, h5⟩
  · exact .inl h
  · exact .inr ⟨x, h0, h1, h2, h3, fun i hi => cell_later hb (h4 i hi), h5⟩
theorem R3.mono {B B' : Nat} {w : World} {nv wv sv : Value} {s : RSt} (h : R3 B w nv wv sv s) (hB : B' ≤ B) : R3 B' w nv wv sv s := by
  have q : ∀ {e : TypeId} {sz : Nat} {v : Value} {n : Nat} {xs : List Value}, w.ownsRow B e sz v n xs → w.ownsRow B' e sz v n xs := by
    intro e sz v n xs h
    obtain ⟨q0, q1 | ⟨g, cap, cur, hv, hg, r⟩⟩ := h
    · exact ⟨q0, .inl q1⟩
    · exact ⟨q0, .inr ⟨g, cap, cur, hv, by omega, r⟩⟩
  exact ⟨q h.n, q h.ws, q h.ss, h.nw, h.ns, h.sw⟩
theorem R3.own_ge {B : Nat} {w : World} {nv wv sv : Value} {s : RSt} (h : R3 B w nv wv sv s) {b : Nat} (q : nv.ownBlock = some b ∨ wv.ownBlock = some b ∨ sv.ownBlock = some b) : B ≤ b ∧ b < w.heap.size := by
  rcases q with q | q | q
  · exact World.ownsRow.lt h.n b q
  · exact World.ownsRow.lt h.ws b q
  · exact World.ownsRow.lt h.ss b q
theorem doT_vars : ∀ (d : Nat) (T : Tr d) (n : Nat) (deep : Int) (s : RSt), stB n d deep T = true → (∀ x ∈ s.ws, vIn n x.1 = true) → ∀ x ∈ (doT d T s).ws, vIn n x.1 = true
  | 0, _, _, _, s, _, h => h
  | d + 1, (l : List (Pay × Tr d × Tr d)), n, deep, s, hs, h => by
    show ∀ x ∈ (l.foldl (fun s x => stepS (doT d) x s) s).ws, vIn n x.1 = true
    have hs' : (l.all fun x => decide (1 ≤ deep) && payB n x.1 (decide (ln d x.2.1 + ln d x.2.2 = 0)) && (stB n d (deep - 1) x.2.1 && stB n d (deep - 1) x.2.2)) = true := hs
    clear hs
    induction l generalizing s with
    | nil => exact h
    | cons y l ih =>
      rw [List.all_cons, Bool.and_eq_true_iff] at hs'
      obtain ⟨hx, hr⟩ := hs'
      simp only [Bool.and_eq_true_iff] at hx
      obtain ⟨⟨_, hp⟩, h1, h2⟩ := hx
      rw [List.foldl_cons]
      refine ih _ ?_ hr
      have hv : vIn n y.1.v = true := by unfold payB at hp; simp only [Bool.and_eq_true_iff] at hp; exact hp.1
      unfold stepS
      split
      · intro x hx
        rcases List.mem_append.1 hx with hx | hx
        · exact h x hx
        · obtain rfl : x = _ := by simpa using hx
          exact hv
      · split
        · exact h
        · split
          · exact doT_vars d _ n _ s h1 h
          · exact doT_vars d _ n _ s h2 h
theorem nums_st {ls : List (Int × Int)} {d : Nat} {T : Tr d} {zs : List Int} (h : numsB ls d T zs = true) : stB ls.length d 3 T = true ∧ zs.length = ls.length ∧ tenB zs = true ∧ cnt d T ≤ 8 := by
  unfold numsB progB at h
  simp only [Bool.and_eq_true_iff, decide_eq_true_eq] at h
  exact ⟨h.1.2.2.1, h.2.1, h.2.2, h.1.2.2.2⟩
theorem runS_vars (ls : List (Int × Int)) (d : Nat) (T : Tr d) (zs : List Int) : ∀ x ∈ (runS ls d T zs).ws, vIn ls.length x.1 = true := by
  unfold runS
  split
  · rename_i h
    exact doT_vars d T ls.length 3 _ (nums_st h).1 (fun x hx => by simp at hx)
  · intro x hx; simp at hx
theorem runS_len (ls : List (Int × Int)) (d : Nat) (T : Tr d) (zs : List Int) : (runS ls d T zs).ws.length ≤ 8 := by
  unfold runS
  split
  · rename_i h
    obtain ⟨h1, h2, h3, h4⟩ := nums_st h
    have := (doT_ok d T ls.length 3 ⟨zs, [], []⟩ h1 h2 h3).2.2.1
    simp at this
    omega
  · simp

def DrsPost (w : World) (e : Ending) (w' : World) : Prop := ∃ (a b c : Value) (s : RSt) (vv : Value) (vs : List Bool), e = .returned (.tuple #[.agg #[a, b, c], vv]) ∧ Below w.heap.size w w' ∧ R3 (w.heap.size + 1) w' a b c s ∧ GRep Value.bool w' vv vs ∧ (∀ x ∈ s.ws, vIn vs.length x.1 = true) ∧ s.ws.length ≤ 1048576 ∧ vs.length ≤ 4

end Go.Proofs.Ytepacahfpbedoaa
