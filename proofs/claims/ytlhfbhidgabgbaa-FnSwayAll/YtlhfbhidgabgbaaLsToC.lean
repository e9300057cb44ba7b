/- An argument laid anew: labels, a program. -/
import Derived.Test.YtlhfbhidgabgbaaLsSqx
namespace Go.Proofs.Ytlhfbhidgabgbaa
open Go.RowKit
set_option linter.unusedSimpArgs false
set_option linter.unusedVariables false
attribute [local go_sem] World.cell?_alloc_some

/-- Labels in a block of their own. -/
def LOwn (w : World) (v : Value) (ls : List (Int × Int)) (bs : List Nat) : Prop := (ls.length = 0 ∧ (∃ a c, v = .slice a 0 c ∧ c ≤ maxLen) ∧ bs = []) ∨
  (0 < ls.length ∧ ∃ (g c : Nat), v = .slice (some ⟨g, 0, none⟩) ls.length c ∧ ls.length ≤ c ∧ c ≤ maxLen ∧ w.there g 0 (ls.length * 2) ∧ bs = [g] ∧ ∀ i (hi : i < ls.length), w.rangeAt g (i * 2) [.int .i64 ls[i].1, .int .i64 ls[i].2])
theorem LOwn.frame {w w' : World} {v : Value} {ls : List (Int × Int)} {bs : List Nat} (hb : ∀ b ∈ bs, w'.heap[b]? = w.heap[b]?) (h : LOwn w v ls bs) : LOwn w' v ls bs := by
  rcases h with h | ⟨h0, g, c, rfl, hlc, hcm, ht, rfl, hr⟩
  · exact .inl h
  · exact .inr ⟨h0, g, c, rfl, hlc, hcm, there_same (hb g (by simp)) ht, rfl, fun i hi => range_same (hb g (by simp)) (hr i hi)⟩
theorem LOwn.rep {w : World} {v : Value} {ls : List (Int × Int)} {bs : List Nat} (h : LOwn w v ls bs) : LRep w v ls := by
  rcases h with ⟨h0, ⟨a, c, rfl, hc⟩, _⟩ | ⟨h0, g, c, rfl, hlc, hcm, ht, rfl, hr⟩
  · exact ⟨a, c, by rw [h0], by omega, hc, fun i hi => by omega⟩
  · refine ⟨_, c, rfl, hlc, hcm, fun i hi => ⟨g, 0, rfl, ?_, ?_⟩⟩
    · have := hr i hi 0 _ rfl; simpa using this
    · have := hr i hi 1 _ rfl; simpa using this
theorem infoLabel : (Try.prog.info? 82).map (fun i => (i.zero, i.size, i.bytes)) = some (some (.agg #[.int .i64 0, .int .i64 0]), 2, 16) := by kernel_rfl

end Go.Proofs.Ytlhfbhidgabgbaa
