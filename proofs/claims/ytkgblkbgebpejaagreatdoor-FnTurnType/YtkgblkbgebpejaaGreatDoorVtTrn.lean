/- Rows that turn, and what turned sets and labels are. -/
import Derived.Test.YtkgblkbgebpejaaGreatDoorVtLbl
import Derived.Test.YtkgblkbgebpejaaGreatDoorVtSpx
namespace Go.Proofs.YtkgblkbgebpejaaGreatDoor
open Go.RowKit
set_option linter.unusedSimpArgs false
set_option linter.unusedVariables false

/-- A row of all numbers below one, each once. -/
def rowB (zs : List Int) (n : Nat) : Bool := decide (zs.length = n) && (zs.all (fun z => vIn n z) && decide zs.Nodup)
def allI (n : Nat) : List Int := (List.range n).map fun k : Nat => (k : Int)
theorem allI_nodup (n : Nat) : (allI n).Nodup :=
  List.pairwise_map.2 (List.Pairwise.imp (fun h e => h (Int.ofNat.inj e)) List.nodup_range)
theorem mem_allI {n : Nat} {z : Int} : z ∈ allI n ↔ vIn n z = true := by
  simp only [allI, List.mem_map, List.mem_range, vIn, Bool.and_eq_true, decide_eq_true_eq]
  constructor
  · rintro ⟨k, hk, rfl⟩; omega
  · intro h; exact ⟨z.toNat, by omega, by omega⟩
theorem perm_of {α : Type} [DecidableEq α] : ∀ (xs ys : List α), xs.Nodup → (∀ x ∈ xs, x ∈ ys) → ys.length ≤ xs.length → xs.Perm ys
  | [], ys, _, _, hl => by
    have : ys = [] := List.eq_nil_of_length_eq_zero (by simpa using hl)
    subst this
    exact List.Perm.refl _
  | x :: xs, ys, hn, hs, hl => by
    have hx : x ∈ ys := hs x (by simp)
    have hp := List.perm_cons_erase hx
    have hn' := List.nodup_cons.1 hn
    have := perm_of xs (ys.erase x) hn'.2 (fun y hy => (List.mem_erase_of_ne (fun e => hn'.1 (by rw [← e]; exact hy))).2 (hs y (List.mem_cons_of_mem _ hy))) (by rw [List.length_erase_of_mem hx]; simp at hl; omega)
    exact (List.Perm.cons x this).trans hp.symm
theorem rowB_iff {zs : List Int} {n : Nat} : rowB zs n = true ↔ zs.length = n ∧ (∀ z ∈ zs, vIn n z = true) ∧ zs.Nodup := by
  simp [rowB]
theorem rowB_len {zs : List Int} {n : Nat} (h : rowB zs n = true) : zs.length = n := (rowB_iff.1 h).1
theorem rowB_in {zs : List Int} {n : Nat} (h : rowB zs n = true) (i : Nat) (hi : i < zs.length) : 0 ≤ zs[i] ∧ zs[i] < n := by
  have := (rowB_iff.1 h).2.1 _ (List.getElem_mem hi)
  simpa [vIn] using this
theorem rowB_perm {zs : List Int} {n : Nat} (h : rowB zs n = true) : zs.Perm (allI n) := by
  obtain ⟨h1, h2, h3⟩ := rowB_iff.1 h
  exact perm_of zs (allI n) h3 (fun z hz => mem_allI.2 (h2 z hz)) (by simp [allI, h1])
/-- The same, as the model looks at it: each number is there. -/
def rowS (zs : List Int) (n : Nat) (k : Nat) : Bool := (List.range k).all fun i => zs.contains (i : Int)
theorem rowS_succ (zs : List Int) (n k : Nat) : rowS zs n (k + 1) = (rowS zs n k && zs.contains (k : Int)) := by simp [rowS, List.range_succ]
theorem rowS_row {zs : List Int} {n : Nat} (hl : zs.length = n) : rowS zs n n = rowB zs n := by
  rw [Bool.eq_iff_iff]
  constructor
  · intro h
    have hs : ∀ x ∈ allI n, x ∈ zs := by
      intro x hx
      simp only [allI, List.mem_map, List.mem_range] at hx
      obtain ⟨k, hk, rfl⟩ := hx
      have := List.all_eq_true.1 h k (List.mem_range.2 hk)
      simpa using this
    have hp := perm_of (allI n) zs (allI_nodup n) hs (by simp [allI, hl])
    exact rowB_iff.2 ⟨hl, fun z hz => mem_allI.1 (hp.mem_iff.2 hz), hp.nodup_iff.1 (allI_nodup n)⟩
  · intro h
    refine List.all_eq_true.2 fun k hk => ?_
    have := (rowB_perm h).mem_iff.2 (mem_allI.2 (show vIn n (k : Int) = true by simp [vIn]; exact List.mem_range.1 hk))
    simpa using this
theorem rowS_false {zs : List Int} {n k : Nat} (hl : zs.length = n) (hk : k < n) (h : zs.contains (k : Int) = false) : rowB zs n = false := by
  rw [← rowS_row hl]
  exact List.all_eq_false.2 ⟨k, List.mem_range.2 hk, by rw [h]; simp⟩
/-- What has been looked at is fine so far. -/
def rowTo (zs : List Int) (n : Nat) (i : Nat) : Bool := (zs.take i).all (fun z => vIn n z) && decide (zs.take i).Nodup
theorem rowTo_succ {zs : List Int} {n i : Nat} (hi : i < zs.length) : rowTo zs n (i + 1) = (rowTo zs n i && (vIn n zs[i] && !(zs.take i).contains zs[i])) := by
  unfold rowTo
  rw [List.take_succ_eq_append_getElem hi, List.all_append, Bool.eq_iff_iff]
  simp only [Bool.and_eq_true, decide_eq_true_eq, List.nodup_append, List.all_cons, List.all_nil, Bool.and_true, Bool.not_eq_true', List.contains_eq_mem, decide_eq_false_iff_not, List.nodup_cons, List.mem_cons, List.not_mem_nil, or_false, not_false_eq_true, List.nodup_nil, and_true, true_and, ne_eq]
  constructor
  · rintro ⟨⟨h1, h2⟩, h3, h4⟩
    exact ⟨⟨h1, h3⟩, h2, fun hm => h4 _ hm _ rfl rfl⟩
  · rintro ⟨⟨h1, h3⟩, h2, h4⟩
    refine ⟨⟨h1, h2⟩, h3, ?_⟩
    rintro a ha b rfl rfl
    exact h4 ha
theorem rowTo_all {zs : List Int} {n : Nat} (h : rowTo zs n zs.length = true) : rowB zs n = decide (zs.length = n) := by
  unfold rowTo at h
  rw [List.take_length] at h
  unfold rowB
  rw [h, Bool.and_true]
theorem rowTo_false {zs : List Int} {n i : Nat} (hi : i < zs.length) (h : (vIn n zs[i] && !(zs.take i).contains zs[i]) = false) : rowB zs n = false := by
  have h1 : rowTo zs n (i + 1) = false := by rw [rowTo_succ hi, h, Bool.and_false]
  cases hr : rowB zs n
  · rfl
  · exfalso
    obtain ⟨_, h2, h3⟩ := rowB_iff.1 hr
    have : rowTo zs n (i + 1) = true := by
      unfold rowTo
      simp only [Bool.and_eq_true, decide_eq_true_eq, List.all_eq_true]
      exact ⟨fun z hz => h2 z (List.mem_of_mem_take hz), h3.sublist (List.take_sublist _ _)⟩
    rw [h1] at this
    cases this

/-- All rows of so many numbers below one. -/
def allL (m : Nat) : Nat → List (List Int)
  | 0 => [[]]
  | k + 1 => (allL m k).flatMap fun t => (List.range m).map fun x : Nat => (x : Int) :: t
theorem mem_allL {m : Nat} : ∀ zs : List Int, (∀ z ∈ zs, vIn m z = true) → zs ∈ allL m zs.length
  | [], _ => by simp [allL]
  | z :: zs, h => by
    refine List.mem_flatMap.2 ⟨zs, mem_allL zs (fun x hx => h x (List.mem_cons_of_mem _ hx)), List.mem_map.2 ⟨z.toNat, ?_, ?_⟩⟩
    · have := h z (by simp); simp [vIn] at this; exact List.mem_range.2 (by omega)
    · have := h z (by simp); simp [vIn] at this; congr 1; omega
/-- What holds of each row of at most four holds of a row. -/
theorem row4 {P : List Int → Nat → Bool} (h : ((List.range 5).all fun n => (allL n n).all fun zs => !rowB zs n || P zs n) = true) {zs : List Int} {n : Nat} (hr : rowB zs n = true) (hn : n ≤ 4) : P zs n = true := by
  obtain ⟨h1, h2, h3⟩ := rowB_iff.1 hr
  have := List.all_eq_true.1 (List.all_eq_true.1 h n (List.mem_range.2 (by omega))) zs (by have := mem_allL zs h2; rwa [h1] at this)
  rw [hr] at this
  simpa using this

/-- A set by new names, of the first hosts. -/
def turnTo (s : Int) (zs : List Int) (k : Nat) : Int := ((List.range k).map fun h : Nat => if hasB s (h : Int) then (2 : Int) ^ (zs.getD h 0).toNat else 0).sum
def turnI (s : Int) (zs : List Int) : Int := turnTo s zs 3
def turnR (s : Int) (zs : List Int) : Int := if inB s && rowB zs 3 then turnI s zs else 0
theorem turnTo_succ (s : Int) (zs : List Int) (k : Nat) : turnTo s zs (k + 1) = turnTo s zs k + if hasB s (k : Int) then (2 : Int) ^ (zs.getD k 0).toNat else 0 := by
  simp [turnTo, List.range_succ]
def allS (P : Int → Bool) : Bool := (List.range 8).all fun s => P (s : Int)
theorem of_allS {P : Int → Bool} (h : allS P = true) {s : Int} (h0 : 0 ≤ s) (h7 : s ≤ 7) : P s = true := by
  have := List.all_eq_true.1 h s.toNat (List.mem_range.2 (by omega))
  rwa [Int.toNat_of_nonneg h0] at this
theorem turn_facts {zs : List Int} {s : Int} (hr : rowB zs 3 = true) (h0 : 0 ≤ s) (h7 : s ≤ 7) :
    (List.range 4).all (fun k : Nat => decide (0 ≤ turnTo s zs k ∧ turnTo s zs k ≤ 7) && (decide (k = 3) || decide (orI (turnTo s zs k) ((2 : Int) ^ (zs.getD k 0).toNat) = turnTo s zs k + (2 : Int) ^ (zs.getD k 0).toNat))) = true :=
  of_allS (P := fun s => (List.range 4).all (fun k : Nat => decide (0 ≤ turnTo s zs k ∧ turnTo s zs k ≤ 7) && (decide (k = 3) || decide (orI (turnTo s zs k) ((2 : Int) ^ (zs.getD k 0).toNat) = turnTo s zs k + (2 : Int) ^ (zs.getD k 0).toNat))))
    (row4 (P := fun zs n => decide (n ≠ 3) || allS fun s => (List.range 4).all (fun k : Nat => decide (0 ≤ turnTo s zs k ∧ turnTo s zs k ≤ 7) && (decide (k = 3) || decide (orI (turnTo s zs k) ((2 : Int) ^ (zs.getD k 0).toNat) = turnTo s zs k + (2 : Int) ^ (zs.getD k 0).toNat)))) (by decide +kernel) hr (by omega)) h0 h7
theorem turnTo_bd {zs : List Int} {s : Int} (hr : rowB zs 3 = true) (h0 : 0 ≤ s) (h7 : s ≤ 7) (k : Nat) (hk : k ≤ 3) : 0 ≤ turnTo s zs k ∧ turnTo s zs k ≤ 7 := by
  have := List.all_eq_true.1 (turn_facts hr h0 h7) k (List.mem_range.2 (by omega))
  simp only [Bool.and_eq_true, decide_eq_true_eq] at this
  exact this.1
theorem turnTo_or {zs : List Int} {s : Int} (hr : rowB zs 3 = true) (h0 : 0 ≤ s) (h7 : s ≤ 7) (k : Nat) (hk : k < 3) : orI (turnTo s zs k) ((2 : Int) ^ (zs.getD k 0).toNat) = turnTo s zs k + (2 : Int) ^ (zs.getD k 0).toNat := by
  have := List.all_eq_true.1 (turn_facts hr h0 h7) k (List.mem_range.2 (by omega))
  simp only [Bool.and_eq_true, Bool.or_eq_true, decide_eq_true_eq] at this
  rcases this.2 with h | h
  · omega
  · exact h

/-- The row that turns one back. -/
def backTo (zs : List Int) (k : Nat) : List Int := (List.range k).foldl (fun o i => o.set (zs.getD i 0).toNat (i : Int)) (List.replicate zs.length 0)
def backL (zs : List Int) : List Int := backTo zs zs.length
theorem back_row {zs : List Int} {n : Nat} (hr : rowB zs n = true) (hn : n ≤ 4) : rowB (backL zs) n = true :=
  row4 (P := fun zs n => rowB (backL zs) n) (by decide +kernel) hr hn
theorem back_at {zs : List Int} {n : Nat} (hr : rowB zs n = true) (hn : n ≤ 4) (i : Nat) (hi : i < n) : (backL zs).getD (zs.getD i 0).toNat 0 = (i : Int) := by
  have := List.all_eq_true.1 (row4 (P := fun zs n => (List.range n).all fun i : Nat => decide ((backL zs).getD (zs.getD i 0).toNat 0 = (i : Int))) (by decide +kernel) hr hn) i (List.mem_range.2 hi)
  simpa using this
theorem turn_has {zs : List Int} {s : Int} (hr : rowB zs 3 = true) (h0 : 0 ≤ s) (h7 : s ≤ 7) (h : Nat) (hh : h < 3) : hasB (turnI s zs) (zs.getD h 0) = hasB s (h : Int) := by
  have := List.all_eq_true.1 (of_allS (P := fun s => (List.range 3).all fun h : Nat => hasB (turnI s zs) (zs.getD h 0) == hasB s (h : Int)) (row4 (P := fun zs n => decide (n ≠ 3) || allS fun s => (List.range 3).all fun h : Nat => hasB (turnI s zs) (zs.getD h 0) == hasB s (h : Int)) (by decide +kernel) hr (by omega)) h0 h7) h (List.mem_range.2 hh)
  simpa using this
theorem turn_back {zs : List Int} {s : Int} (hr : rowB zs 3 = true) (h0 : 0 ≤ s) (h7 : s ≤ 7) : turnI (turnI s zs) (backL zs) = s := by
  have := of_allS (P := fun s => decide (turnI (turnI s zs) (backL zs) = s)) (row4 (P := fun zs n => decide (n ≠ 3) || allS fun s => decide (turnI (turnI s zs) (backL zs) = s)) (by decide +kernel) hr (by omega)) h0 h7
  simpa using this
theorem turn_and {zs : List Int} {a b : Int} (hr : rowB zs 3 = true) (a0 : 0 ≤ a) (a7 : a ≤ 7) (b0 : 0 ≤ b) (b7 : b ≤ 7) : andI (turnI a zs) (turnI b zs) = turnI (andI a b) zs ∧ orI (turnI a zs) (turnI b zs) = turnI (orI a b) zs ∧ covB (turnI a zs) (turnI b zs) = covB a b := by
  have := of_allS (P := fun b => decide (andI (turnI a zs) (turnI b zs) = turnI (andI a b) zs ∧ orI (turnI a zs) (turnI b zs) = turnI (orI a b) zs ∧ covB (turnI a zs) (turnI b zs) = covB a b)) (of_allS (P := fun a => allS fun b => decide (andI (turnI a zs) (turnI b zs) = turnI (andI a b) zs ∧ orI (turnI a zs) (turnI b zs) = turnI (orI a b) zs ∧ covB (turnI a zs) (turnI b zs) = covB a b)) (row4 (P := fun zs n => decide (n ≠ 3) || allS fun a => allS fun b => decide (andI (turnI a zs) (turnI b zs) = turnI (andI a b) zs ∧ orI (turnI a zs) (turnI b zs) = turnI (orI a b) zs ∧ covB (turnI a zs) (turnI b zs) = covB a b)) (by decide +kernel) hr (by omega)) a0 a7) b0 b7
  simpa using this
theorem turnI_bd {zs : List Int} {s : Int} (hr : rowB zs 3 = true) (h0 : 0 ≤ s) (h7 : s ≤ 7) : 0 ≤ turnI s zs ∧ turnI s zs ≤ 7 := turnTo_bd hr h0 h7 3 (by omega)

end Go.Proofs.YtkgblkbgebpejaaGreatDoor
