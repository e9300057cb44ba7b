/- A region that draws its order, by an invariant: whatever order is drawn, each operation is met once. -/
import Derived.WalkKit
import Derived.Orders
namespace Go.Proofs.Ytpcmhkcahajdgaa
open Go.RowKit
set_option linter.unusedSimpArgs false
set_option linter.unusedVariables false

/-- What holds once an operation has come up, till the last one does. -/
def On (l : Array Bool) (s k : Nat) (p : Prop) : Prop := l.getD k false = true → l.getD s false = false → p
theorem On.keep {l : Array Bool} {i s k : Nat} {p p' : Prop} (h : On l s k p) (hk : i ≠ k) (hs : i ≠ s) (hp : p → p') : On (l.setIfInBounds i true) s k p' := by
  intro h1 h2
  rw [getD_set_ne false hk] at h1
  rw [getD_set_ne false hs] at h2
  exact hp (h h1 h2)
theorem On.new {l : Array Bool} {s k : Nat} {p : Prop} (h : p) : On l s k p := fun _ _ => h
theorem On.none {n s k : Nat} {p : Prop} : On (Array.replicate n false) s k p := by
  intro h
  exfalso
  simp [Array.getD] at h
theorem On.shut {l : Array Bool} {s k : Nat} {p : Prop} (hs : (l.setIfInBounds s true).getD s false = true) : On (l.setIfInBounds s true) s k p := by
  intro _ h
  rw [hs] at h
  cases h
theorem set_on {l : Array Bool} {i : Nat} (h : l.getD i true = false) : (l.setIfInBounds i true).getD i false = true := by
  have h1 : i < l.size := by
    rcases Nat.lt_or_ge i l.size with h' | h'
    · exact h'
    · simp [Array.getD, Nat.not_lt.2 h'] at h
  simp [Array.getD, h1]
theorem un_false {l : Array Bool} {i : Nat} (h : l.getD i true = false) : l.getD i false = false := by
  have h1 : i < l.size := by
    rcases Nat.lt_or_ge i l.size with h' | h'
    · exact h'
    · simp [Array.getD, Nat.not_lt.2 h'] at h
  simpa [Array.getD, h1] using h
/-- The last operation has not come up while another one has not. -/
def Last (l : Array Bool) (s : Nat) : Prop := l.getD s false = true → ∀ k, k < s → l.getD k false = true
theorem Last.not {l : Array Bool} {s i : Nat} (h : Last l s) (hi : i < s) (hun : l.getD i true = false) : l.getD s false = false := by
  cases hs : l.getD s false
  · rfl
  · have := h hs i hi
    rw [un_false hun] at this
    cases this
theorem Last.keep {l : Array Bool} {s i : Nat} (h : Last l s) (hi : i < s) (hun : l.getD i true = false) : Last (l.setIfInBounds i true) s := by
  intro hs
  rw [getD_set_ne false (Nat.ne_of_lt hi), h.not hi hun] at hs
  cases hs
theorem Last.none {n s : Nat} : Last (Array.replicate n false) s := by
  intro h
  exfalso
  simp [Array.getD] at h
theorem wpOp_abs {P : Program} {ops : Array Oper} {Q : Exit → Act → World → Prop} {i : Nat} {o : Oper} {I : Act → World → Prop} {a : Act} {w : World} (ho : ops[i]? = some o) (hw : Region.wanted o (yielded ops a.tmps) = true)
    (h : ∀ K : Act → World → Prop, Hid (∀ a w, I a w → K a w) → o.wp P a w K Q) : wpOp P ops Q i I a w := by
  unfold wpOp
  simp only [ho, hw, if_true]
  exact .inl (h I (fun _ _ h => h))
def lowB (ops : Array Oper) : Bool := (List.range ops.size).all fun i => match ops[i]? with | some o => o.after.all fun e => decide (e.on < i) | none => true
theorem low_of {ops : Array Oper} (h : lowB ops = true) : ∀ (i : Nat) (o : Oper), ops[i]? = some o → ∀ e ∈ o.after, e.on < i := by
  intro i o ho e he
  have hi : i < ops.size := by
    rcases Nat.lt_or_ge i ops.size with h' | h'
    · exact h'
    · rw [Array.getElem?_eq_none h'] at ho
      cases ho
  have := List.all_eq_true.1 h i (List.mem_range.2 hi)
  rw [ho] at this
  have h2 := Array.all_eq_true_iff_forall_mem.1 this e he
  simpa using h2

theorem all_of_ready {md : Region.Mode} {ops : Array Oper} {l : Array Bool} (hs : l.size = ops.size) (hlow : ∀ (i : Nat) (o : Oper), ops[i]? = some o → ∀ e ∈ o.after, e.on < i)
    (h : Region.ready md ops l = []) : ∀ k, k < ops.size → l.getD k false = true := by
  intro k
  induction k using Nat.strongRecOn with
  | _ k ih =>
    intro hk
    cases hl : l.getD k false
    · exfalso
      have hm : k ∈ Region.ready md ops l := by
        rw [mem_ready]
        refine ⟨?_, ops[k], by simp [hk], ?_⟩
        · have h1 : k < l.size := by omega
          simp [Array.getD, h1] at hl ⊢
          exact hl
        · intro e he _
          have := hlow k ops[k] (by simp [hk]) e he
          exact ih e.on this (by omega)
      rw [h] at hm
      cases hm
    · rfl

theorem wpAny_inv {P : Program} {md : Region.Mode} {ops : Array Oper} {Q : Exit → Act → World → Prop} (Inv : Array Bool → Act → World → Prop)
    (hlow : ∀ (i : Nat) (o : Oper), ops[i]? = some o → ∀ e ∈ o.after, e.on < i)
    (hstep : ∀ l a w i, i ∈ Region.ready md ops l → Inv l a w → wpOp P ops Q i (Inv (l.setIfInBounds i true)) a w)
    (hdone : ∀ l a w, (∀ k, k < ops.size → l.getD k false = true) → Inv l a w → Q .normal a w) :
    ∀ (fuel : Nat) (l : Array Bool) (a : Act) (w : World), l.size = ops.size → l.toList.count false ≤ fuel → Inv l a w → wpAny P md ops Q fuel l a w := by
  intro fuel
  induction fuel with
  | zero =>
    intro l a w hs hc hi
    have hr : Region.ready md ops l = [] := by
      rw [List.eq_nil_iff_forall_not_mem]
      intro j hj
      rw [mem_ready] at hj
      have hj1 : j < l.size := by
        rcases Nat.lt_or_ge j l.size with h | h
        · exact h
        · have := hj.1; simp [Array.getD, Nat.not_lt.2 h] at this
      have hmem : false ∈ l.toList := by
        have h1 := hj.1
        simp [Array.getD, hj1] at h1
        rw [← h1]
        simp
      have := List.count_pos_iff.2 hmem
      omega
    exact ⟨hr, hdone l a w (all_of_ready hs hlow hr) hi⟩
  | succ fuel ih =>
    intro l a w hs hc hi
    refine ⟨fun hr => hdone l a w (all_of_ready hs hlow hr) hi, fun i hr => ?_⟩
    refine wpOp_mono (fun a' w' h' => ih _ a' w' (by simpa using hs) ?_ h') (hstep l a w i hr hi)
    rw [mem_ready] at hr
    have hj1 : i < l.size := by
      rcases Nat.lt_or_ge i l.size with h | h
      · exact h
      · have := hr.1; simp [Array.getD, Nat.not_lt.2 h] at this
    have h1 := hr.1
    simp [Array.getD, hj1] at h1
    have hmem : false ∈ l.toList := by rw [← h1]; simp
    have hp := List.count_pos_iff.2 hmem
    rw [Array.toList_setIfInBounds, List.count_set (by simpa using hj1)]
    simp only [Array.count_toList] at hc hp
    simp [h1]
    omega

theorem wp_region_inv {P : Program} {id : Nat} {ops : Array Oper} {Q : Exit → Act → World → Prop} {a : Act} {w : World} (hm : P.follows .mixedOrders = true) (Inv : Array Bool → Act → World → Prop)
    (hlow : ∀ (i : Nat) (o : Oper), ops[i]? = some o → ∀ e ∈ o.after, e.on < i)
    (h0 : Inv (Array.replicate ops.size false) a w.drew)
    (hstep : ∀ l a w i, i ∈ Region.ready .any ops l → Inv l a w → wpOp P ops Q i (Inv (l.setIfInBounds i true)) a w)
    (hdone : ∀ l a w, (∀ k, k < ops.size → l.getD k false = true) → Inv l a w → Q .normal a w) : (Code.region id ops true).wp P Q a w :=
  wp_region_any hm (wpAny_inv Inv hlow hstep hdone ops.size _ a _ (by simp) (by simp) h0)

end Go.Proofs.Ytpcmhkcahajdgaa
