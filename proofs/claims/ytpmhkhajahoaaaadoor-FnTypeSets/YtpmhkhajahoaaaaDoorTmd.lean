/- In a fine program who trusts what is set trusts that it is done. -/
import Derived.Test.YtpmhkhajahoaaaaDoorTmb
import Derived.Test.YtpmhkhajahoaaaaDoorTss
namespace Go.Proofs.YtpmhkhajahoaaaaDoor
set_option linter.unusedSimpArgs false
set_option linter.unusedVariables false

def subB (s a : Int) : Prop := ∀ h : Nat, s.toNat.testBit h = true → a.toNat.testBit h = true
theorem hasB_nat (n : Nat) (h : Int) : hasB (n : Int) h = n.testBit h.toNat := by
  unfold hasB
  have e : ((n : Int) / 2 ^ h.toNat % 2) = ((n / 2 ^ h.toNat % 2 : Nat) : Int) := by simp
  rw [e, Nat.testBit_eq_decide_div_mod_eq]
  have : n / 2 ^ h.toNat % 2 < 2 := Nat.mod_lt _ (by decide)
  by_cases h1 : n / 2 ^ h.toNat % 2 = 1
  · simp [h1]
  · simp [h1]; omega
theorem hasB_bit {s : Int} (h0 : 0 ≤ s) (h : Int) : hasB s h = s.toNat.testBit h.toNat := by
  obtain ⟨n, rfl⟩ := Int.eq_ofNat_of_zero_le h0
  rw [hasB_nat]; rfl
theorem subB.zero (a : Int) : subB 0 a := fun h e => by simp at e
theorem subB.or {s t a : Int} (h1 : subB s a) (h2 : subB t a) : subB (orI s t) a := fun h e => by
  have e' : (s.toNat ||| t.toNat).testBit h = true := e
  rw [Nat.testBit_or, Bool.or_eq_true_iff] at e'
  exact e'.elim (h1 h) (h2 h)
theorem subB.and {s a b : Int} (h1 : subB s (andI a b)) : subB s a := fun h e => by
  have e' : (a.toNat &&& b.toNat).testBit h = true := h1 h e
  rw [Nat.testBit_and, Bool.and_eq_true_iff] at e'
  exact e'.1
theorem subB.cov {a x t : Int} (h : covB (andI a x) t = true) : subB t a := fun i e => by
  unfold covB at h
  have h' : andI (andI a x) t = t := by simpa using h
  rw [← h'] at e
  have e' : ((a.toNat &&& x.toNat) &&& t.toNat).testBit i = true := e
  rw [Nat.testBit_and, Nat.testBit_and, Bool.and_eq_true_iff, Bool.and_eq_true_iff] at e'
  exact e'.1.1
theorem setT_sub {ls : List (Int × Int)} : ∀ (d : Nat) (T : Tr d) (h : Int × Int), (∀ x ∈ prs ls d T h, fineB ls x.1 x.2 = true) → subB (setT ls d T) h.2
  | 0, _, h, _ => subB.zero _
  | d + 1, (l : List (Pay × Tr d × Tr d)), h, hf => by
    have hf' : ∀ x ∈ List.flatMap (fun x : Pay × Tr d × Tr d => (x.1, h) :: (prs ls d x.2.1 (anL h (lab ls x.1.v)) ++ prs ls d x.2.2 (anL h (lab ls x.1.v)))) l, fineB ls x.1 x.2 = true := hf
    show subB (List.foldl _ 0 l) h.2
    have key : ∀ (l : List (Pay × Tr d × Tr d)) (o : Int), (∀ x ∈ List.flatMap (fun x : Pay × Tr d × Tr d => (x.1, h) :: (prs ls d x.2.1 (anL h (lab ls x.1.v)) ++ prs ls d x.2.2 (anL h (lab ls x.1.v)))) l, fineB ls x.1 x.2 = true) → subB o h.2 → subB (List.foldl (fun o x => orI o (orI (if x.1.k = 1 then (lab ls x.1.v).2 else 0) (orI (setT ls d x.2.1) (setT ls d x.2.2)))) o l) h.2 := by
      intro l
      induction l with
      | nil => exact fun o _ h => h
      | cons x l ih =>
        intro o hf ho
        rw [List.foldl_cons]
        rw [List.flatMap_cons] at hf
        refine ih _ (fun y hy => hf y (List.mem_append_right _ hy)) (subB.or ho (subB.or ?_ (subB.or ?_ ?_)))
        · split
          · rename_i hk
            have h0 := hf (x.1, h) (List.mem_append_left _ (List.mem_cons_self ..))
            unfold fineB at h0
            rw [if_pos hk] at h0
            unfold flL at h0
            rw [Bool.and_eq_true_iff] at h0
            exact subB.cov h0.2
          · exact subB.zero _
        · exact subB.and (setT_sub d x.2.1 _ (fun y hy => hf y (List.mem_append_left _ (List.mem_cons_of_mem _ (List.mem_append_left _ hy)))))
        · exact subB.and (setT_sub d x.2.2 _ (fun y hy => hf y (List.mem_append_left _ (List.mem_cons_of_mem _ (List.mem_append_right _ hy)))))
    exact key l 0 hf' (subB.zero _)
/-- Step by step. -/
theorem sets_at {ls : List (Int × Int)} : ∀ (d : Nat) (T : Tr d) (h : Int × Int), (∀ x ∈ prs ls d T h, fineB ls x.1 x.2 = true) → ∀ y ∈ (setsL ls d T).zip (atT ls d T h), subB y.1 y.2.2
  | 0, _, _, _ => by intro y hy; cases hy
  | d + 1, (l : List (Pay × Tr d × Tr d)), h, hf => by
    have hf' : ∀ x ∈ List.flatMap (fun x : Pay × Tr d × Tr d => (x.1, h) :: (prs ls d x.2.1 (anL h (lab ls x.1.v)) ++ prs ls d x.2.2 (anL h (lab ls x.1.v)))) l, fineB ls x.1 x.2 = true := hf
    show ∀ y ∈ (List.map (setX ls) (List.flatMap (fun x => (⟨d, x⟩ : Sg) :: (flat d x.2.1 ++ flat d x.2.2)) l)).zip (List.map (·.2) (List.flatMap (fun x : Pay × Tr d × Tr d => (x.1, h) :: (prs ls d x.2.1 (anL h (lab ls x.1.v)) ++ prs ls d x.2.2 (anL h (lab ls x.1.v)))) l)), subB y.1 y.2.2
    clear hf
    induction l with
    | nil => intro y hy; cases hy
    | cons x l ih =>
      rw [List.flatMap_cons] at hf'
      simp only [List.flatMap_cons, List.map_append, List.map_cons, List.cons_append, List.zip_cons_cons]
      intro y hy
      rcases List.mem_cons.1 hy with rfl | hy
      · have := setT_sub (d + 1) ([x] : List (Pay × Tr d × Tr d)) h (by
          intro z hz
          have hz : z ∈ List.flatMap (fun x : Pay × Tr d × Tr d => (x.1, h) :: (prs ls d x.2.1 (anL h (lab ls x.1.v)) ++ prs ls d x.2.2 (anL h (lab ls x.1.v)))) [x] := hz
          rw [List.flatMap_cons, List.flatMap_nil, List.append_nil] at hz
          exact hf' z (List.mem_append_left _ hz))
        rw [setT_one] at this
        exact this
      · have e1 : (List.map (setX ls) (flat d x.2.1)).length = (List.map (fun x => x.2) (prs ls d x.2.1 (anL h (lab ls x.1.v)))).length := by rw [List.length_map, List.length_map, flat_length, prs_length]
        have e2 : (List.map (setX ls) (flat d x.2.2)).length = (List.map (fun x => x.2) (prs ls d x.2.2 (anL h (lab ls x.1.v)))).length := by rw [List.length_map, List.length_map, flat_length, prs_length]
        rw [List.append_assoc, List.append_assoc, List.zip_append e1, List.zip_append e2] at hy
        rcases List.mem_append.1 hy with hy | hy
        · exact sets_at d x.2.1 _ (fun z hz => hf' z (List.mem_append_left _ (List.mem_cons_of_mem _ (List.mem_append_left _ hz)))) y hy
        · rcases List.mem_append.1 hy with hy | hy
          · exact sets_at d x.2.2 _ (fun z hz => hf' z (List.mem_append_left _ (List.mem_cons_of_mem _ (List.mem_append_right _ hz)))) y hy
          · exact ih (fun z hz => hf' z (List.mem_append_right _ hz)) y hy
/-- In a fine program who trusts what is set trusts that it is done. -/
theorem sets_fine {ls : List (Int × Int)} {d : Nat} {T : Tr d} (hok : (progB ls d T && !(whyR ls d T).2) = true) (i : Nat) (h1 : i < (setsL ls d T).length) (h2 : i < (atT ls d T topL).length) (h : Int) (hs : hasB (setsL ls d T)[i] h = true) : hasB (atT ls d T topL)[i].2 h = true := by
  cases hp : progB ls d T with
  | false => rw [okR_no hp] at hok; cases hok
  | true =>
    rw [okR_iff hp] at hok
    have hz := sets_at d T topL hok ((setsL ls d T)[i], (atT ls d T topL)[i]) (by
      have : ((setsL ls d T).zip (atT ls d T topL))[i]'(by simp; omega) = ((setsL ls d T)[i], (atT ls d T topL)[i]) := by simp
      rw [← this]; exact List.getElem_mem _)
    have n1 : 0 ≤ (setsL ls d T)[i] := by
      obtain ⟨x, -, hx⟩ := List.mem_map.1 (List.getElem_mem h1 : (setsL ls d T)[i] ∈ List.map _ _)
      rw [← hx]; exact (setX_bd (progB_labs hp) x).1
    have n2 := (atT_ok (progB_labs hp) d T topL topL_ok _ (List.getElem_mem h2)).2.1
    rw [hasB_bit n1] at hs
    rw [hasB_bit n2]
    exact hz _ hs
end Go.Proofs.YtpmhkhajahoaaaaDoor
