/- What somebody may know, or trusts, of what a fine program does, by what they may know, or trust, of its numbers alone. -/
import Derived.Test.YthcgdhlemieboaaGreatTkTyp
import Derived.Test.YthcgdhlemieboaaGreatTkDox
namespace Go.Proofs.YthcgdhlemieboaaGreat
open Go.RowKit
set_option linter.unusedSimpArgs false
set_option linter.unusedVariables false

structure Say (K : Int × Int → Bool) : Prop where
  an : ∀ a b, okL a → okL b → K (anL a b) = (K a && K b)
  fl : ∀ a b, okL a → okL b → flL a b = true → K b = true → K a = true
def Eqv (K : Int × Int → Bool) (ls : List (Int × Int)) (tl : Option Int) (s t : RSt) : Prop :=
  s.n.length = t.n.length ∧ (∀ i : Nat, K (lab ls i) = true → s.n.getD i 0 = t.n.getD i 0) ∧ s.ws.filter (fun x => K (lab ls x.1)) = t.ws.filter (fun x => K (lab ls x.1)) ∧ ∀ h, tl = some h → s.ss.filter (fun x => decide (x.1 = h)) = t.ss.filter (fun x => decide (x.1 = h))
theorem Eqv.refl {K : Int × Int → Bool} {ls : List (Int × Int)} {tl : Option Int} (s : RSt) : Eqv K ls tl s s := ⟨rfl, fun _ _ => rfl, rfl, fun _ _ => rfl⟩
theorem Eqv.symm {K : Int × Int → Bool} {ls : List (Int × Int)} {tl : Option Int} {s t : RSt} (h : Eqv K ls tl s t) : Eqv K ls tl t s := ⟨h.1.symm, fun i k => (h.2.1 i k).symm, h.2.2.1.symm, fun g k => (h.2.2.2 g k).symm⟩
theorem Eqv.trans {K : Int × Int → Bool} {ls : List (Int × Int)} {tl : Option Int} {s t u : RSt} (h : Eqv K ls tl s t) (k : Eqv K ls tl t u) : Eqv K ls tl s u :=
  ⟨h.1.trans k.1, fun i q => (h.2.1 i q).trans (k.2.1 i q), h.2.2.1.trans k.2.2.1, fun g q => (h.2.2.2 g q).trans (k.2.2.2 g q)⟩
def AllF (ls : List (Int × Int)) (xs : List (Pay × (Int × Int))) : Prop := ∀ x ∈ xs, fineB ls x.1 x.2 = true
theorem lab_nat (ls : List (Int × Int)) (v : Int) : lab ls (v.toNat : Nat) = lab ls v := by
  unfold lab; rw [Int.toNat_natCast]
theorem getD_set_z (l : List Int) (m i : Nat) (x : Int) : (l.set m x).getD i 0 = if i = m ∧ m < l.length then x else l.getD i 0 := by
  simp only [List.getD_eq_getElem?_getD, List.getElem?_set]
  by_cases h : m = i
  · subst h
    by_cases h2 : m < l.length
    · simp [h2]
    · simp [h2]
  · rw [if_neg h, if_neg (fun k => h k.1.symm)]
def Tel (K : Int × Int → Bool) (ls : List (Int × Int)) (tl : Option Int) : Prop := ∀ h, tl = some h → ∀ a v, okL a → hasB (andI a.1 (lab ls v).1) h = true → K a = true ∧ K (lab ls v) = true

theorem conf {K : Int × Int → Bool} (hK : Say K) {ls : List (Int × Int)} (hls : labsB ls = true) {tl : Option Int} (ht : Tel K ls tl) : ∀ (d : Nat) (T : Tr d) (h : Int × Int) (s : RSt), okL h → AllF ls (prs ls d T h) → K h = false → Eqv K ls tl (doT d T s) s
  | 0, _, _, s, _, _, _ => Eqv.refl s
  | d + 1, (l : List (Pay × Tr d × Tr d)), h, s, ho, hf, hh => by
    show Eqv K ls tl (l.foldl (fun s x => stepS (doT d) x s) s) s
    have hf' : ∀ x ∈ l, fineB ls x.1 h = true ∧ AllF ls (prs ls d x.2.1 (anL h (lab ls x.1.v))) ∧ AllF ls (prs ls d x.2.2 (anL h (lab ls x.1.v))) := fun x hx =>
      ⟨hf (x.1, h) (List.mem_flatMap.2 ⟨x, hx, List.mem_cons_self ..⟩), fun y hy => hf y (List.mem_flatMap.2 ⟨x, hx, List.mem_cons_of_mem _ (List.mem_append_left _ hy)⟩), fun y hy => hf y (List.mem_flatMap.2 ⟨x, hx, List.mem_cons_of_mem _ (List.mem_append_right _ hy)⟩)⟩
    clear hf
    induction l generalizing s with
    | nil => exact Eqv.refl s
    | cons x l ih =>
      rw [List.foldl_cons]
      refine (ih _ (fun y hy => hf' y (List.mem_cons_of_mem _ hy))).trans ?_
      obtain ⟨f0, f1, f2⟩ := hf' x (List.mem_cons_self ..)
      have hin : K (anL h (lab ls x.1.v)) = false := by rw [hK.an _ _ ho (lab_ok hls _), hh]; rfl
      have hio : okL (anL h (lab ls x.1.v)) := anL_ok ho (lab_ok hls _)
      unfold stepS
      split
      · have hv : K (lab ls x.1.v) = false := by
          cases hv : K (lab ls x.1.v)
          · rfl
          · have f0' : flL (anL h (valL ls x.1.vk x.1.va x.1.vb)) (lab ls x.1.v) = true := by simpa [fineB, ‹x.1.k = 1›] using f0
            have := hK.fl _ _ (anL_ok ho (valL_ok hls _ _ _)) (lab_ok hls _) f0' hv
            rw [hK.an _ _ ho (valL_ok hls _ _ _), hh] at this
            cases this
        refine ⟨by simp, fun i hi => ?_, ?_, fun _ _ => rfl⟩
        · dsimp only
          rw [getD_set_z, if_neg]
          rintro ⟨rfl, _⟩
          rw [lab_nat, hv] at hi
          cases hi
        · dsimp only
          rw [List.filter_append]
          simp [hv]
      · split
        · refine ⟨rfl, fun _ _ => rfl, rfl, fun g hg => ?_⟩
          dsimp only
          rw [List.filter_append]
          have : ¬ x.1.h = g := by
            intro e
            have f0' : hasB (andI h.1 (lab ls x.1.v).1) x.1.h = true := by simpa [fineB, ‹x.1.k = 3›] using f0
            rw [e] at f0'
            have := (ht g hg h x.1.v ho f0').1
            rw [hh] at this
            cases this
          simp [this]
        · split
          · exact conf hK hls ht d x.2.1 _ s hio f1 hin
          · exact conf hK hls ht d x.2.2 _ s hio f2 hin

theorem numV_eqv {K : Int × Int → Bool} (hK : Say K) {ls : List (Int × Int)} (hls : labsB ls = true) {vk va vb : Int} {ns ms : List Int} (hv : valB ls.length vk va vb = true) (hk : K (valL ls vk va vb) = true)
    (he : ∀ i : Nat, K (lab ls i) = true → ns.getD i 0 = ms.getD i 0) : numV vk va vb ns = numV vk va vb ms := by
  have hn : ∀ z : Int, K (lab ls z) = true → ns.getD z.toNat 0 = ms.getD z.toNat 0 := fun z hz => he z.toNat (by rw [lab_nat]; exact hz)
  unfold numV
  unfold valL at hk
  split
  · rfl
  · rename_i h1
    rw [if_neg h1] at hk
    split
    · rename_i h2
      rw [if_pos h2] at hk
      exact hn va hk
    · rename_i h2
      rw [if_neg h2, hK.an _ _ (lab_ok hls _) (lab_ok hls _), Bool.and_eq_true_iff] at hk
      rw [hn va hk.1, hn vb hk.2]

theorem nin {K : Int × Int → Bool} (hK : Say K) {ls : List (Int × Int)} (hls : labsB ls = true) {tl : Option Int} (ht : Tel K ls tl) : ∀ (d : Nat) (T : Tr d) (deep : Int) (h : Int × Int) (s t : RSt), okL h → stB ls.length d deep T = true → AllF ls (prs ls d T h) → Eqv K ls tl s t → Eqv K ls tl (doT d T s) (doT d T t)
  | 0, _, _, _, _, _, _, _, _, he => he
  | d + 1, (l : List (Pay × Tr d × Tr d)), deep, h, s, t, ho, hst, hf, he => by
    show Eqv K ls tl (l.foldl (fun s x => stepS (doT d) x s) s) (l.foldl (fun s x => stepS (doT d) x s) t)
    have hf' : ∀ x ∈ l, fineB ls x.1 h = true ∧ AllF ls (prs ls d x.2.1 (anL h (lab ls x.1.v))) ∧ AllF ls (prs ls d x.2.2 (anL h (lab ls x.1.v))) := fun x hx =>
      ⟨hf (x.1, h) (List.mem_flatMap.2 ⟨x, hx, List.mem_cons_self ..⟩), fun y hy => hf y (List.mem_flatMap.2 ⟨x, hx, List.mem_cons_of_mem _ (List.mem_append_left _ hy)⟩), fun y hy => hf y (List.mem_flatMap.2 ⟨x, hx, List.mem_cons_of_mem _ (List.mem_append_right _ hy)⟩)⟩
    have hs' : (l.all fun x => decide (1 ≤ deep) && payB ls.length x.1 (decide (ln d x.2.1 + ln d x.2.2 = 0)) && (stB ls.length d (deep - 1) x.2.1 && stB ls.length d (deep - 1) x.2.2)) = true := hst
    clear hf hst
    induction l generalizing s t with
    | nil => exact he
    | cons x l ih =>
      rw [List.foldl_cons, List.foldl_cons]
      rw [List.all_cons, Bool.and_eq_true_iff] at hs'
      obtain ⟨hx, hr⟩ := hs'
      simp only [Bool.and_eq_true_iff] at hx
      obtain ⟨⟨_, hp⟩, st1, st2⟩ := hx
      refine ih _ _ ?_ (fun y hy => hf' y (List.mem_cons_of_mem _ hy)) hr
      obtain ⟨f0, f1, f2⟩ := hf' x (List.mem_cons_self ..)
      have hio : okL (anL h (lab ls x.1.v)) := anL_ok ho (lab_ok hls _)
      obtain ⟨e1, e2, e3, e4⟩ := id he
      unfold stepS
      split
      · have hv : valB ls.length x.1.vk x.1.va x.1.vb = true := by
          unfold payB at hp
          simp [‹x.1.k = 1›] at hp
          exact hp.2.1.1
        have key : K (lab ls x.1.v) = true → numV x.1.vk x.1.va x.1.vb s.n = numV x.1.vk x.1.va x.1.vb t.n := fun hk => by
          have f0' : flL (anL h (valL ls x.1.vk x.1.va x.1.vb)) (lab ls x.1.v) = true := by simpa [fineB, ‹x.1.k = 1›] using f0
          have := hK.fl _ _ (anL_ok ho (valL_ok hls _ _ _)) (lab_ok hls _) f0' hk
          rw [hK.an _ _ ho (valL_ok hls _ _ _), Bool.and_eq_true_iff] at this
          exact numV_eqv hK hls hv this.2 e2
        refine ⟨by simp [e1], fun i hi => ?_, ?_, e4⟩
        · dsimp only
          rw [getD_set_z, getD_set_z, e1]
          split
          · rename_i hq
            obtain ⟨rfl, _⟩ := hq
            refine key ?_
            rw [← lab_nat]; exact hi
          · exact e2 i hi
        · dsimp only
          rw [List.filter_append, List.filter_append, e3]
          cases hk : K (lab ls x.1.v)
          · simp [hk]
          · rw [key hk]
      · split
        · refine ⟨e1, e2, e3, fun g hg => ?_⟩
          dsimp only
          rw [List.filter_append, List.filter_append, e4 g hg]
          by_cases e : x.1.h = g
          · have f0' : hasB (andI h.1 (lab ls x.1.v).1) x.1.h = true := by simpa [fineB, ‹x.1.k = 3›] using f0
            rw [e] at f0'
            have := (ht g hg h x.1.v ho f0').2
            rw [e2 x.1.v.toNat (by rw [lab_nat]; exact this)]
          · simp [e]
        · cases hk : K (lab ls x.1.v)
          · have hin : K (anL h (lab ls x.1.v)) = false := by rw [hK.an _ _ ho (lab_ok hls _), hk]; simp
            have c : ∀ s : RSt, Eqv K ls tl (if s.n.getD x.1.v.toNat 0 ≠ 0 then doT d x.2.1 s else doT d x.2.2 s) s := fun s => by
              split
              · exact conf hK hls ht d x.2.1 _ s hio f1 hin
              · exact conf hK hls ht d x.2.2 _ s hio f2 hin
            exact (c s).trans (he.trans (c t).symm)
          · rw [e2 x.1.v.toNat (by rw [lab_nat]; exact hk)]
            split
            · exact nin hK hls ht d x.2.1 _ _ s t hio st1 f1 he
            · exact nin hK hls ht d x.2.2 _ _ s t hio st2 f2 he

theorem hasB_and {a b h : Int} (a0 : 0 ≤ a) (a7 : a ≤ 7) (b0 : 0 ≤ b) (b7 : b ≤ 7) (h0 : 0 ≤ h) (h2 : h ≤ 2) : hasB (andI a b) h = (hasB a h && hasB b h) :=
  all3 (P := fun h => hasB (andI a b) h = (hasB a h && hasB b h)) (fun n => all88 (P := fun a b => hasB (andI a b) ((n.val : Nat) : Int) = (hasB a ((n.val : Nat) : Int) && hasB b ((n.val : Nat) : Int))) (by revert n; decide) a0 a7 b0 b7) h h0 h2
theorem covB_has {a b h : Int} (a0 : 0 ≤ a) (a7 : a ≤ 7) (b0 : 0 ≤ b) (b7 : b ≤ 7) (h0 : 0 ≤ h) (h2 : h ≤ 2) (hc : covB a b = true) (hb : hasB b h = true) : hasB a h = true := by
  have e : andI a b = b := by simpa [covB] using hc
  have := hasB_and (h := h) a0 a7 b0 b7 h0 h2
  rw [e, hb] at this
  simp at this
  exact this
theorem say_trust {h : Int} (h0 : 0 ≤ h) (h2 : h ≤ 2) : Say (fun a => hasB a.2 h) :=
  ⟨fun a b ha hb => hasB_and ha.2.1 ha.2.2 hb.2.1 hb.2.2 h0 h2, fun a b ha hb hf hk => covB_has ha.2.1 ha.2.2 hb.2.1 hb.2.2 h0 h2 (by unfold flL at hf; rw [Bool.and_eq_true_iff] at hf; exact hf.2) hk⟩
theorem tel_none {K : Int × Int → Bool} {ls : List (Int × Int)} : Tel K ls none := fun _ h => by cases h

end Go.Proofs.YthcgdhlemieboaaGreat
