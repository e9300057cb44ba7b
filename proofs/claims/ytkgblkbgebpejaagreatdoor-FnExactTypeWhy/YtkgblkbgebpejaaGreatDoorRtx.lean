/- What was told to a host. -/
import Derived.Test.YtkgblkbgebpejaaGreatDoorRwx
import Derived.Test.YtkgblkbgebpejaaGreatDoorCpy
import Derived.Test.YtkgblkbgebpejaaGreatDoorPcx
import Derived.Test.YtkgblkbgebpejaaGreatDoorSpx
namespace Go.Proofs.YtkgblkbgebpejaaGreatDoor
open Go.RowKit
set_option linter.unusedSimpArgs false
set_option linter.unusedVariables false
attribute [local go_sem] World.cell?_alloc_some

/-- The numbers that were told to a host. -/
def toH (host : Int) (ss : List (Int × Int)) : List Int := (ss.filter fun x => x.1 = host).map (·.2)
theorem toH_take {host : Int} (ss : List (Int × Int)) (i : Nat) (hi : i < ss.length) : toH host (ss.take (i + 1)) = toH host (ss.take i) ++ (if ss[i].1 = host then [ss[i].2] else []) := by
  unfold toH
  rw [List.take_succ_eq_append_getElem hi, List.filter_append, List.map_append]
  by_cases h : ss[i].1 = host <;> simp [h]
theorem toH_len (host : Int) (ss : List (Int × Int)) : (toH host ss).length ≤ ss.length := by simp only [toH, List.length_map]; exact List.length_filter_le _ _
theorem rowg_slice {w : World} {base : Nat} {e : TypeId} {sz : Nat} {v : Value} {n : Nat} {xs : List Value} (h : w.ownsRow base e sz v n xs) : ∃ a c, v = .slice a n c := by
  obtain ⟨_, ⟨rfl, rfl⟩ | ⟨g, cap, cur, rfl, _⟩⟩ := h
  · exact ⟨_, _, rfl⟩
  · exact ⟨_, _, rfl⟩
/-- A row of cells that was made is one of its own. -/
theorem row_gown {α : Type} {f : α → Value} {w : World} {base : Nat} {e : TypeId} {v : Value} {xs : List α} (h : w.ownsRow base e 1 v xs.length (xs.map f)) : ∃ bs, GOwn f w v xs bs ∧ (∀ b ∈ bs, v.ownBlock = some b) := by
  obtain ⟨h0, ⟨h1, h2⟩ | ⟨g, cap, cur, hv, hg, hh, hc, hm, hs, ht⟩⟩ := id h
  · exact ⟨[], .inl ⟨h2, ⟨none, 0, h1, by unfold maxLen; omega⟩, rfl⟩, by simp⟩
  · subst hv
    by_cases hz : xs.length = 0
    · exact ⟨[], .inl ⟨hz, ⟨some ⟨g, 0, none⟩, cap, by rw [hz], hm⟩, rfl⟩, by simp⟩
    · refine ⟨[g], .inr ⟨by omega, g, cap, rfl, hc, hm, by have := row_there h; rwa [Nat.mul_one] at this, rfl, fun i hi => ?_⟩, by simp [Value.ownBlock]⟩
      have := h.cells rfl i (f xs[i]) (by simp [hi])
      rwa [Addr.add_mid, Nat.zero_add] at this

theorem cells_new1 (w : World) (u : Value) (T : TypeId) (k : Nat) (hk : k = w.heap.size) : ∀ j v, [u][j]? = some v → (w.alloc (.cells #[u] T)).cell? ((⟨k, 0, none⟩ : Addr).add j) = some v := by
  subst hk
  intro j v hv
  match j, hv with
  | 0, hv => cases hv; simp [Addr.add]
  | (j + 1), hv => simp at hv

end Go.Proofs.YtkgblkbgebpejaaGreatDoor

namespace Go.Proofs.YtkgblkbgebpejaaGreatDoor
open Go.RowKit
set_option linter.unusedSimpArgs false
set_option linter.unusedVariables false
attribute [local go_sem] World.cell?_alloc_some

def setB (vs : List Bool) (x : Int) : Bool := vIn vs.length x && vs.getD x.toNat false
/-- All that was set of the variables of which there is a true. -/
def setV (vs : List Bool) (ws : List (Int × Int)) : List (Int × Int) := ws.filter fun x => setB vs x.1
theorem setV_take {vs : List Bool} (ws : List (Int × Int)) (i : Nat) (hi : i < ws.length) : setV vs (ws.take (i + 1)) = setV vs (ws.take i) ++ (if setB vs ws[i].1 then [ws[i]] else []) := by
  unfold setV
  rw [List.take_succ_eq_append_getElem hi, List.filter_append]
  by_cases h : setB vs ws[i].1 <;> simp [h]
theorem setV_len (vs : List Bool) (ws : List (Int × Int)) : (setV vs ws).length ≤ ws.length := List.length_filter_le _ _
def pcells (ls : List (Int × Int)) : List Value := ls.flatMap fun a => [.int .i64 a.1, .int .i64 a.2]
theorem pcells_get : ∀ (ls : List (Int × Int)) (i : Nat) (hi : i < ls.length), (pcells ls)[i * 2]? = some (.int .i64 ls[i].1) ∧ (pcells ls)[i * 2 + 1]? = some (.int .i64 ls[i].2)
  | a :: ls, 0, _ => ⟨rfl, rfl⟩
  | a :: ls, i + 1, hi => by
    have := pcells_get ls i (by simpa using hi)
    have e : pcells (a :: ls) = [.int .i64 a.1, .int .i64 a.2] ++ pcells ls := rfl
    rw [e, List.getElem?_append_right (by simp; omega), List.getElem?_append_right (by simp; omega)]
    simpa [show (i + 1) * 2 - 2 = i * 2 by omega, show (i + 1) * 2 + 1 - 2 = i * 2 + 1 by omega] using this
theorem pcells_app (ls : List (Int × Int)) (a : Int × Int) : pcells (ls ++ [a]) = pcells ls ++ [.int .i64 a.1, .int .i64 a.2] := by simp [pcells]
/-- A row of pairs that was made is one of its own. -/
theorem row_pown {w : World} {base : Nat} {e : TypeId} {v : Value} {ls : List (Int × Int)} (h : w.ownsRow base e 2 v ls.length (pcells ls)) : ∃ bs, LOwn w v ls bs ∧ (∀ b ∈ bs, v.ownBlock = some b) := by
  obtain ⟨h0, ⟨h1, h2⟩ | ⟨g, cap, cur, hv, hg, hh, hc, hm, hs, ht⟩⟩ := id h
  · exact ⟨[], .inl ⟨h2, ⟨none, 0, h1, by unfold maxLen; omega⟩, rfl⟩, by simp⟩
  · subst hv
    by_cases hz : ls.length = 0
    · exact ⟨[], .inl ⟨hz, ⟨some ⟨g, 0, none⟩, cap, by rw [hz], hm⟩, rfl⟩, by simp⟩
    · refine ⟨[g], .inr ⟨by omega, g, cap, rfl, hc, hm, row_there h, rfl, fun i hi => ?_⟩, by simp [Value.ownBlock]⟩
      intro j u hu
      have hg := pcells_get ls i hi
      match j, hu with
      | 0, hu =>
        cases hu
        have := h.cells rfl (i * 2) _ hg.1
        rwa [Addr.add_mid, Nat.zero_add] at this
      | 1, hu =>
        cases hu
        have := h.cells rfl (i * 2 + 1) _ hg.2
        rwa [Addr.add_mid, Nat.zero_add] at this
      | (j + 2), hu => simp at hu
theorem cells_new2 (w : World) (u v : Value) (T : TypeId) (k : Nat) (hk : k = w.heap.size) : ∀ j x, [u, v][j]? = some x → (w.alloc (.cells #[u, v] T)).cell? ((⟨k, 0, none⟩ : Addr).add j) = some x := by
  subst hk
  intro j x hv
  match j, hv with
  | 0, hv => cases hv; simp [Addr.add]
  | 1, hv => cases hv; simp [Addr.add]
  | (j + 2), hv => simp at hv

end Go.Proofs.YtkgblkbgebpejaaGreatDoor
