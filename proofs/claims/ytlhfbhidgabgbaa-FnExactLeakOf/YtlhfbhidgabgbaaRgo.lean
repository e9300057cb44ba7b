/- What comes of a program, in blocks of its own; numbers laid anew in a row that is there. -/
import Derived.Test.YtlhfbhidgabgbaaVrv
import Derived.Test.YtlhfbhidgabgbaaRwx
import Derived.Test.YtlhfbhidgabgbaaDox
namespace Go.Proofs.Ytlhfbhidgabgbaa
open Go.RowKit
set_option linter.unusedSimpArgs false
set_option linter.unusedVariables false

/-- A row of cells that was made is one of its own. -/
theorem row_gownR {α : Type} {f : α → Value} {w : World} {base : Nat} {e : TypeId} {v : Value} {xs : List α} (h : w.ownsRow base e 1 v xs.length (xs.map f)) : ∃ bs, GOwn f w v xs bs ∧ (∀ b ∈ bs, v.ownBlock = some b) := by
  obtain ⟨h0, ⟨h1, h2⟩ | ⟨g, cap, cur, hv, hg, hh, hc, hm, hs, ht⟩⟩ := id h
  · exact ⟨[], .inl ⟨h2, ⟨none, 0, h1, by unfold maxLen; omega⟩, rfl⟩, by simp⟩
  · subst hv
    by_cases hz : xs.length = 0
    · exact ⟨[], .inl ⟨hz, ⟨some ⟨g, 0, none⟩, cap, by rw [hz], hm⟩, rfl⟩, by simp⟩
    · refine ⟨[g], .inr ⟨by omega, g, cap, rfl, hc, hm, by have := row_there h; rwa [Nat.mul_one] at this, rfl, fun i hi => ?_⟩, by simp [Value.ownBlock]⟩
      have := h.cells rfl i (f xs[i]) (by simp [hi])
      rwa [Addr.add_mid, Nat.zero_add] at this

theorem pcells_getR : ∀ (ls : List (Int × Int)) (i : Nat) (hi : i < ls.length), (pcells ls)[i * 2]? = some (.int .i64 ls[i].1) ∧ (pcells ls)[i * 2 + 1]? = some (.int .i64 ls[i].2)
  | a :: ls, 0, _ => ⟨rfl, rfl⟩
  | a :: ls, i + 1, hi => by
    have := pcells_getR ls i (by simpa using hi)
    have e : pcells (a :: ls) = [.int .i64 a.1, .int .i64 a.2] ++ pcells ls := rfl
    rw [e, List.getElem?_append_right (by simp; omega), List.getElem?_append_right (by simp; omega)]
    simpa [show (i + 1) * 2 - 2 = i * 2 by omega, show (i + 1) * 2 + 1 - 2 = i * 2 + 1 by omega] using this
/-- A row of pairs that was made is one of its own. -/
theorem row_pownR {w : World} {base : Nat} {e : TypeId} {v : Value} {ls : List (Int × Int)} (h : w.ownsRow base e 2 v ls.length (pcells ls)) : ∃ bs, LOwn w v ls bs ∧ (∀ b ∈ bs, v.ownBlock = some b) := by
  obtain ⟨h0, ⟨h1, h2⟩ | ⟨g, cap, cur, hv, hg, hh, hc, hm, hs, ht⟩⟩ := id h
  · exact ⟨[], .inl ⟨h2, ⟨none, 0, h1, by unfold maxLen; omega⟩, rfl⟩, by simp⟩
  · subst hv
    by_cases hz : ls.length = 0
    · exact ⟨[], .inl ⟨hz, ⟨some ⟨g, 0, none⟩, cap, by rw [hz], hm⟩, rfl⟩, by simp⟩
    · refine ⟨[g], .inr ⟨by omega, g, cap, rfl, hc, hm, row_there h, rfl, fun i hi => ?_⟩, by simp [Value.ownBlock]⟩
      intro j u hu
      have hg := pcells_getR ls i hi
      match j, hu with
      | 0, hu =>
        cases hu
        have := h.cells rfl (i * 2) _ hg.1
        rwa [Addr.add_mid, Nat.zero_add] at this
      | 1, hu =>
        cases hu
        have := h.cells rfl (i * 2 + 1) _ hg.2
        rwa [Addr.add_mid, Nat.zero_add] at this
      | (j + 2), hu => simp at hu

/-- What comes of a program lies in blocks of its own. -/
theorem R3.rown {B : Nat} {w : World} {a b c : Value} {s : RSt} (h : R3 B w a b c s) : ∃ b0 b1 b2, ROwn w a b c s.n s.ws s.ss b0 b1 b2 ∧ (∀ k ∈ b0 ++ b1 ++ b2, B ≤ k ∧ k < w.heap.size) ∧ Apart b0 b1 b2 := by
  obtain ⟨b0, o0, q0⟩ := row_gownR h.n
  obtain ⟨b1, o1, q1⟩ := row_pownR h.ws
  obtain ⟨b2, o2, q2⟩ := row_pownR h.ss
  refine ⟨b0, b1, b2, ⟨o0, o1, o2⟩, fun k hk => ?_, fun k hk => ⟨fun hk' => h.nw k (q0 k hk) (q1 k hk'), fun hk' => h.ns k (q0 k hk) (q2 k hk')⟩, fun k hk hk' => h.sw k (q1 k hk) (q2 k hk')⟩
  rcases List.mem_append.1 hk with hk | hk
  · rcases List.mem_append.1 hk with hk | hk
    · exact World.ownsRow.lt h.n k (q0 k hk)
    · exact World.ownsRow.lt h.ws k (q1 k hk)
  · exact World.ownsRow.lt h.ss k (q2 k hk)

end Go.Proofs.Ytlhfbhidgabgbaa
