/- Rows that turn, and what turned sets and labels are. -/
import Derived.Test.YthcgdhlemieboaaGreatTkLbl
import Derived.Test.YthcgdhlemieboaaGreatTkSpx
namespace Go.Proofs.YthcgdhlemieboaaGreat
open Go.RowKit
set_option linter.unusedSimpArgs false
set_option linter.unusedVariables false

def rowB (zs : List Int) (n : Nat) : Bool := decide (zs.length = n) && (zs.all (fun z => vIn n z) && decide zs.Nodup)
def allI (n : Nat) : List Int := (List.range n).map fun k : Nat => (k : Int)
theorem rowB_iff {zs : List Int} {n : Nat} : rowB zs n = true ↔ zs.length = n ∧ (∀ z ∈ zs, vIn n z = true) ∧ zs.Nodup := by
  simp [rowB]
theorem rowB_len {zs : List Int} {n : Nat} (h : rowB zs n = true) : zs.length = n := (rowB_iff.1 h).1
theorem rowB_in {zs : List Int} {n : Nat} (h : rowB zs n = true) (i : Nat) (hi : i < zs.length) : 0 ≤ zs[i] ∧ zs[i] < n := by
  have := (rowB_iff.1 h).2.1 _ (List.getElem_mem hi)
  simpa [vIn] using this
def rowS (zs : List Int) (n : Nat) (k : Nat) : Bool := (List.range k).all fun i => zs.contains (i : Int)
def rowTo (zs : List Int) (n : Nat) (i : Nat) : Bool := (zs.take i).all (fun z => vIn n z) && decide (zs.take i).Nodup
theorem rowTo_succ {zs : List Int} {n i : Nat} (hi : i < zs.length) : rowTo zs n (i + 1) = (rowTo zs n i && (vIn n zs[i] && !(zs.take i).contains zs[i])) := by
  unfold rowTo
  rw [List.take_succ_eq_append_getElem hi, List.all_append, Bool.eq_iff_iff]
  simp only [Bool.and_eq_true, decide_eq_true_eq, List.nodup_append, List.all_cons, List.all_nil, Bool.and_true, Bool.not_eq_true', List.contains_eq_mem, decide_eq_false_iff_not, List.nodup_cons, List.mem_cons, List.not_mem_nil, or_false, not_false_eq_true, List.nodup_nil, and_true, true_and, ne_eq]
  constructor
  · rintro ⟨⟨h1, h2⟩, h3, h4⟩
    exact ⟨⟨h1, h3⟩, h2, fun hm => h4 _ hm _ rfl rfl⟩
  · rintro ⟨⟨h1, h3⟩, h2, h4⟩
    refine ⟨⟨h1, h2⟩, h3, ?_⟩
    rintro a ha b rfl rfl
    exact h4 ha
theorem rowTo_all {zs : List Int} {n : Nat} (h : rowTo zs n zs.length = true) : rowB zs n = decide (zs.length = n) := by
  unfold rowTo at h
  rw [List.take_length] at h
  unfold rowB
  rw [h, Bool.and_true]
theorem rowTo_false {zs : List Int} {n i : Nat} (hi : i < zs.length) (h : (vIn n zs[i] && !(zs.take i).contains zs[i]) = false) : rowB zs n = false := by
  have h1 : rowTo zs n (i + 1) = false := by rw [rowTo_succ hi, h, Bool.and_false]
  cases hr : rowB zs n
  · rfl
  · exfalso
    obtain ⟨_, h2, h3⟩ := rowB_iff.1 hr
    have : rowTo zs n (i + 1) = true := by
      unfold rowTo
      simp only [Bool.and_eq_true, decide_eq_true_eq, List.all_eq_true]
      exact ⟨fun z hz => h2 z (List.mem_of_mem_take hz), h3.sublist (List.take_sublist _ _)⟩
    rw [h1] at this
    cases this

def allL (m : Nat) : Nat → List (List Int)
  | 0 => [[]]
  | k + 1 => (allL m k).flatMap fun t => (List.range m).map fun x : Nat => (x : Int) :: t
theorem mem_allL {m : Nat} : ∀ zs : List Int, (∀ z ∈ zs, vIn m z = true) → zs ∈ allL m zs.length
  | [], _ => by simp [allL]
  | z :: zs, h => by
    refine List.mem_flatMap.2 ⟨zs, mem_allL zs (fun x hx => h x (List.mem_cons_of_mem _ hx)), List.mem_map.2 ⟨z.toNat, ?_, ?_⟩⟩
    · have := h z (by simp); simp [vIn] at this; exact List.mem_range.2 (by omega)
    · have := h z (by simp); simp [vIn] at this; congr 1; omega
theorem row4 {P : List Int → Nat → Bool} (h : ((List.range 5).all fun n => (allL n n).all fun zs => !rowB zs n || P zs n) = true) {zs : List Int} {n : Nat} (hr : rowB zs n = true) (hn : n ≤ 4) : P zs n = true := by
  obtain ⟨h1, h2, h3⟩ := rowB_iff.1 hr
  have := List.all_eq_true.1 (List.all_eq_true.1 h n (List.mem_range.2 (by omega))) zs (by have := mem_allL zs h2; rwa [h1] at this)
  rw [hr] at this
  simpa using this

def turnTo (s : Int) (zs : List Int) (k : Nat) : Int := ((List.range k).map fun h : Nat => if hasB s (h : Int) then (2 : Int) ^ (zs.getD h 0).toNat else 0).sum
def turnI (s : Int) (zs : List Int) : Int := turnTo s zs 3
def turnR (s : Int) (zs : List Int) : Int := if inB s && rowB zs 3 then turnI s zs else 0
theorem turnTo_succ (s : Int) (zs : List Int) (k : Nat) : turnTo s zs (k + 1) = turnTo s zs k + if hasB s (k : Int) then (2 : Int) ^ (zs.getD k 0).toNat else 0 := by
  simp [turnTo, List.range_succ]
def allS (P : Int → Bool) : Bool := (List.range 8).all fun s => P (s : Int)
theorem of_allS {P : Int → Bool} (h : allS P = true) {s : Int} (h0 : 0 ≤ s) (h7 : s ≤ 7) : P s = true := by
  have := List.all_eq_true.1 h s.toNat (List.mem_range.2 (by omega))
  rwa [Int.toNat_of_nonneg h0] at this
theorem turn_facts {zs : List Int} {s : Int} (hr : rowB zs 3 = true) (h0 : 0 ≤ s) (h7 : s ≤ 7) :
    (List.range 4).all (fun k : Nat => decide (0 ≤ turnTo s zs k ∧ turnTo s zs k ≤ 7) && (decide (k = 3) || decide (orI (turnTo s zs k) ((2 : Int) ^ (zs.getD k 0).toNat) = turnTo s zs k + (2 : Int) ^ (zs.getD k 0).toNat))) = true :=
  of_allS (P := fun s => (List.range 4).all (fun k : Nat => decide (0 ≤ turnTo s zs k ∧ turnTo s zs k ≤ 7) && (decide (k = 3) || decide (orI (turnTo s zs k) ((2 : Int) ^ (zs.getD k 0).toNat) = turnTo s zs k + (2 : Int) ^ (zs.getD k 0).toNat))))
    (row4 (P := fun zs n => decide (n ≠ 3) || allS fun s => (List.range 4).all (fun k : Nat => decide (0 ≤ turnTo s zs k ∧ turnTo s zs k ≤ 7) && (decide (k = 3) || decide (orI (turnTo s zs k) ((2 : Int) ^ (zs.getD k 0).toNat) = turnTo s zs k + (2 : Int) ^ (zs.getD k 0).toNat)))) (by decide +kernel) hr (by omega)) h0 h7
theorem turnTo_bd {zs : List Int} {s : Int} (hr : rowB zs 3 = true) (h0 : 0 ≤ s) (h7 : s ≤ 7) (k : Nat) (hk : k ≤ 3) : 0 ≤ turnTo s zs k ∧ turnTo s zs k ≤ 7 := by
  have := List.all_eq_true.1 (turn_facts hr h0 h7) k (List.mem_range.2 (by omega))
  simp only [Bool.and_eq_true, decide_eq_true_eq] at this
  exact this.1
theorem turnTo_or {zs : List Int} {s : Int} (hr : rowB zs 3 = true) (h0 : 0 ≤ s) (h7 : s ≤ 7) (k : Nat) (hk : k < 3) : orI (turnTo s zs k) ((2 : Int) ^ (zs.getD k 0).toNat) = turnTo s zs k + (2 : Int) ^ (zs.getD k 0).toNat := by
  have := List.all_eq_true.1 (turn_facts hr h0 h7) k (List.mem_range.2 (by omega))
  simp only [Bool.and_eq_true, Bool.or_eq_true, decide_eq_true_eq] at this
  rcases this.2 with h | h
  · omega
  · exact h

def backTo (zs : List Int) (k : Nat) : List Int := (List.range k).foldl (fun o i => o.set (zs.getD i 0).toNat (i : Int)) (List.replicate zs.length 0)
def backL (zs : List Int) : List Int := backTo zs zs.length
theorem back_row {zs : List Int} {n : Nat} (hr : rowB zs n = true) (hn : n ≤ 4) : rowB (backL zs) n = true :=
  row4 (P := fun zs n => rowB (backL zs) n) (by decide +kernel) hr hn
theorem back_at {zs : List Int} {n : Nat} (hr : rowB zs n = true) (hn : n ≤ 4) (i : Nat) (hi : i < n) : (backL zs).getD (zs.getD i 0).toNat 0 = (i : Int) := by
  have := List.all_eq_true.1 (row4 (P := fun zs n => (List.range n).all fun i : Nat => decide ((backL zs).getD (zs.getD i 0).toNat 0 = (i : Int))) (by decide +kernel) hr hn) i (List.mem_range.2 hi)
  simpa using this
theorem turn_has {zs : List Int} {s : Int} (hr : rowB zs 3 = true) (h0 : 0 ≤ s) (h7 : s ≤ 7) (h : Nat) (hh : h < 3) : hasB (turnI s zs) (zs.getD h 0) = hasB s (h : Int) := by
  have := List.all_eq_true.1 (of_allS (P := fun s => (List.range 3).all fun h : Nat => hasB (turnI s zs) (zs.getD h 0) == hasB s (h : Int)) (row4 (P := fun zs n => decide (n ≠ 3) || allS fun s => (List.range 3).all fun h : Nat => hasB (turnI s zs) (zs.getD h 0) == hasB s (h : Int)) (by decide +kernel) hr (by omega)) h0 h7) h (List.mem_range.2 hh)
  simpa using this
theorem turn_back {zs : List Int} {s : Int} (hr : rowB zs 3 = true) (h0 : 0 ≤ s) (h7 : s ≤ 7) : turnI (turnI s zs) (backL zs) = s := by
  have := of_allS (P := fun s => decide (turnI (turnI s zs) (backL zs) = s)) (row4 (P := fun zs n => decide (n ≠ 3) || allS fun s => decide (turnI (turnI s zs) (backL zs) = s)) (by decide +kernel) hr (by omega)) h0 h7
  simpa using this
theorem turnI_bd {zs : List Int} {s : Int} (hr : rowB zs 3 = true) (h0 : 0 ≤ s) (h7 : s ≤ 7) : 0 ≤ turnI s zs ∧ turnI s zs ≤ 7 := turnTo_bd hr h0 h7 3 (by omega)

end Go.Proofs.YthcgdhlemieboaaGreat
