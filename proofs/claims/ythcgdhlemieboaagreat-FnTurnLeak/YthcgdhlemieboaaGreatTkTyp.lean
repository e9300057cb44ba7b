/- What is said of steps: the labels of their being done, whether they are fine, and who trusts what is set by them. -/
import Derived.Test.YthcgdhlemieboaaGreatTkLbl
import Derived.Test.YthcgdhlemieboaaGreatTkSpx
import Derived.Test.YthcgdhlemieboaaGreatTkCpy
namespace Go.Proofs.YthcgdhlemieboaaGreat
open Go.RowKit
set_option linter.unusedSimpArgs false
set_option linter.unusedVariables false

def lab (ls : List (Int × Int)) (v : Int) : Int × Int := ls.getD v.toNat (0, 0)
def anL (a b : Int × Int) : Int × Int := (andI a.1 b.1, andI a.2 b.2)
def okL (a : Int × Int) : Prop := (0 ≤ a.1 ∧ a.1 ≤ 7) ∧ (0 ≤ a.2 ∧ a.2 ≤ 7)
def topL : Int × Int := (7, 7)
def valL (ls : List (Int × Int)) (vk va vb : Int) : Int × Int := if vk = 1 then topL else if vk = 2 then lab ls va else anL (lab ls va) (lab ls vb)
def flL (a b : Int × Int) : Bool := covB a.1 b.1 && covB a.2 b.2
def fineB (ls : List (Int × Int)) (p : Pay) (h : Int × Int) : Bool :=
  if p.k = 1 then flL (anL h (valL ls p.vk p.va p.vb)) (lab ls p.v) else if p.k = 3 then hasB (andI h.1 (lab ls p.v).1) p.h else true
def prs (ls : List (Int × Int)) : (d : Nat) → Tr d → Int × Int → List (Pay × (Int × Int))
  | 0, _, _ => []
  | d + 1, (l : List (Pay × Tr d × Tr d)), h => l.flatMap fun x => (x.1, h) :: (prs ls d x.2.1 (anL h (lab ls x.1.v)) ++ prs ls d x.2.2 (anL h (lab ls x.1.v)))
def atT (ls : List (Int × Int)) (d : Nat) (T : Tr d) (h : Int × Int) : List (Int × Int) := (prs ls d T h).map (·.2)
def badI (ls : List (Int × Int)) (xs : List (Pay × (Int × Int))) : Option Nat := xs.findIdx? (fun x => !fineB ls x.1 x.2)
def setT (ls : List (Int × Int)) : (d : Nat) → Tr d → Int
  | 0, _ => 0
  | d + 1, (l : List (Pay × Tr d × Tr d)) => l.foldl (fun o x => orI o (orI (if x.1.k = 1 then (lab ls x.1.v).2 else 0) (orI (setT ls d x.2.1) (setT ls d x.2.2)))) 0
def setX (ls : List (Int × Int)) (x : Sg) : Int := orI (if x.2.1.k = 1 then (lab ls x.2.1.v).2 else 0) (orI (setT ls x.1 x.2.2.1) (setT ls x.1 x.2.2.2))
def setsL (ls : List (Int × Int)) (d : Nat) (T : Tr d) : List Int := (flat d T).map (setX ls)

theorem topL_ok : okL topL := by simp [okL, topL]
theorem lab_ok {ls : List (Int × Int)} (h : labsB ls = true) (v : Int) : okL (lab ls v) := by
  unfold lab
  by_cases hv : v.toNat < ls.length
  · have := List.all_eq_true.1 h ls[v.toNat] (List.getElem_mem hv)
    have e : ls.getD v.toNat (0, 0) = ls[v.toNat] := by simp [hv]
    rw [e]
    exact okB_iff.1 this
  · have e : ls.getD v.toNat (0, 0) = (0, 0) := by simp [hv]
    rw [e]; simp [okL]
theorem anL_ok {a b : Int × Int} (ha : okL a) (hb : okL b) : okL (anL a b) := ⟨andI_bd ha.1.1 ha.1.2 hb.1.1 hb.1.2, andI_bd ha.2.1 ha.2.2 hb.2.1 hb.2.2⟩
theorem okL_B {a : Int × Int} (h : okL a) : okB a.1 a.2 = true := okB_iff.2 h
theorem anL_bo {a b : Int × Int} (ha : okL a) (hb : okL b) : boK a.1 a.2 b.1 b.2 = (anL a b).1 ∧ boT a.1 a.2 b.1 b.2 = (anL a b).2 := by
  simp [boK, boT, okL_B ha, okL_B hb, anL]
theorem flL_B {a b : Int × Int} (ha : okL a) (hb : okL b) : flB a.1 a.2 b.1 b.2 = flL a b := by
  simp [flB, okL_B ha, okL_B hb, flL]
theorem andI_top {x : Int} (h0 : 0 ≤ x) (h7 : x ≤ 7) : andI 7 x = x := all8 (P := fun x => andI 7 x = x) (by decide) x h0 h7
theorem anL_top {a : Int × Int} (h : okL a) : anL topL a = a := by
  show (andI 7 a.1, andI 7 a.2) = a
  rw [andI_top h.1.1 h.1.2, andI_top h.2.1 h.2.2]
theorem valL_ok {ls : List (Int × Int)} (h : labsB ls = true) (vk va vb : Int) : okL (valL ls vk va vb) := by
  unfold valL
  split
  · exact topL_ok
  · split
    · exact lab_ok h _
    · exact anL_ok (lab_ok h _) (lab_ok h _)

theorem prs_take (ls : List (Int × Int)) {d : Nat} (l : List (Pay × Tr d × Tr d)) (i : Nat) (hi : i < l.length) (h : Int × Int) :
    prs ls (d + 1) (l.take (i + 1) : List (Pay × Tr d × Tr d)) h = prs ls (d + 1) (l.take i : List (Pay × Tr d × Tr d)) h ++ ((l[i].1, h) :: (prs ls d l[i].2.1 (anL h (lab ls l[i].1.v)) ++ prs ls d l[i].2.2 (anL h (lab ls l[i].1.v)))) := by
  show List.flatMap _ (l.take (i + 1)) = List.flatMap _ (l.take i) ++ _
  rw [List.take_succ_eq_append_getElem hi, List.flatMap_append]; simp
theorem prs_length (ls : List (Int × Int)) : ∀ (d : Nat) (T : Tr d) (h : Int × Int), (prs ls d T h).length = cnt d T
  | 0, _, _ => rfl
  | d + 1, (l : List (Pay × Tr d × Tr d)), h => by
    show (l.flatMap _).length = (l.map fun x => 1 + cnt d x.2.1 + cnt d x.2.2).sum
    induction l with
    | nil => rfl
    | cons x l ih =>
      simp only [List.flatMap_cons, List.length_append, List.length_cons, List.map_cons, List.sum_cons, prs_length ls d]
      rw [ih]; omega
theorem prs_fst (ls : List (Int × Int)) : ∀ (d : Nat) (T : Tr d) (h : Int × Int), (prs ls d T h).map (·.1) = (flat d T).map (·.2.1)
  | 0, _, _ => rfl
  | d + 1, (l : List (Pay × Tr d × Tr d)), h => by
    show (List.flatMap _ l).map _ = (List.flatMap _ l).map _
    induction l with
    | nil => rfl
    | cons x l ih =>
      simp only [List.flatMap_cons, List.map_append, List.map_cons, prs_fst ls d]
      rw [ih]
theorem prs_ok {ls : List (Int × Int)} (hls : labsB ls = true) : ∀ (d : Nat) (T : Tr d) (h : Int × Int), okL h → ∀ x ∈ prs ls d T h, okL x.2
  | 0, _, _, _ => by intro x hx; cases hx
  | d + 1, (l : List (Pay × Tr d × Tr d)), h, hh => by
    intro x hx
    obtain ⟨y, hy, hx⟩ := List.mem_flatMap.1 hx
    rcases List.mem_cons.1 hx with rfl | hx
    · exact hh
    · rcases List.mem_append.1 hx with hx | hx
      · exact prs_ok hls d _ _ (anL_ok hh (lab_ok hls _)) x hx
      · exact prs_ok hls d _ _ (anL_ok hh (lab_ok hls _)) x hx
theorem atT_length (ls : List (Int × Int)) (d : Nat) (T : Tr d) (h : Int × Int) : (atT ls d T h).length = cnt d T := by rw [atT, List.length_map, prs_length]
theorem atT_take (ls : List (Int × Int)) {d : Nat} (l : List (Pay × Tr d × Tr d)) (i : Nat) (hi : i < l.length) (h : Int × Int) :
    atT ls (d + 1) (l.take (i + 1) : List (Pay × Tr d × Tr d)) h = atT ls (d + 1) (l.take i : List (Pay × Tr d × Tr d)) h ++ (h :: (atT ls d l[i].2.1 (anL h (lab ls l[i].1.v)) ++ atT ls d l[i].2.2 (anL h (lab ls l[i].1.v)))) := by
  unfold atT; rw [prs_take ls l i hi h]; simp
theorem progB_labs {ls : List (Int × Int)} {d : Nat} {T : Tr d} (h : progB ls d T = true) : labsB ls = true := by
  unfold progB at h; simp only [Bool.and_eq_true_iff] at h; exact h.2.1
theorem progB_st {ls : List (Int × Int)} {d : Nat} {T : Tr d} (h : progB ls d T = true) : stB ls.length d 3 T = true := by
  unfold progB at h; simp only [Bool.and_eq_true_iff] at h; exact h.2.2.1
theorem progB_cnt {ls : List (Int × Int)} {d : Nat} {T : Tr d} (h : progB ls d T = true) : cnt d T ≤ 8 := by
  unfold progB at h; simp only [Bool.and_eq_true_iff, decide_eq_true_eq] at h; exact h.2.2.2
theorem progB_len {ls : List (Int × Int)} {d : Nat} {T : Tr d} (h : progB ls d T = true) : ls.length ≤ 4 := by
  unfold progB at h; simp only [Bool.and_eq_true_iff, decide_eq_true_eq] at h; exact h.1
theorem st_flat : ∀ (d : Nat) (T : Tr d) (n deep : Int), stB n d deep T = true → ∀ x ∈ flat d T, payB n x.2.1 (decide (ln x.1 x.2.2.1 + ln x.1 x.2.2.2 = 0)) = true ∧ (∃ dp, stB n x.1 dp x.2.2.1 = true ∧ stB n x.1 dp x.2.2.2 = true)
  | 0, _, _, _, _ => by intro x hx; cases hx
  | d + 1, (l : List (Pay × Tr d × Tr d)), n, deep, hs => by
    intro x hx
    obtain ⟨y, hy, hx⟩ := List.mem_flatMap.1 (show x ∈ List.flatMap _ l from hx)
    have hs' : (l.all fun x => decide (1 ≤ deep) && payB n x.1 (decide (ln d x.2.1 + ln d x.2.2 = 0)) && (stB n d (deep - 1) x.2.1 && stB n d (deep - 1) x.2.2)) = true := hs
    have hq := List.all_eq_true.1 hs' y hy
    simp only [Bool.and_eq_true_iff] at hq
    rcases List.mem_cons.1 hx with rfl | hx
    · exact ⟨hq.1.2, _, hq.2.1, hq.2.2⟩
    · rcases List.mem_append.1 hx with hx | hx
      · exact st_flat d _ n _ hq.2.1 x hx
      · exact st_flat d _ n _ hq.2.2 x hx
end Go.Proofs.YthcgdhlemieboaaGreat
