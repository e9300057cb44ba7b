/- Numbers that are drawn. -/
import Derived.Test.YtfmhdjnambnglaaVsSrn
import Derived.Test.YtfmhdjnambnglaaVsDpr
namespace Go.Proofs.Ytfmhdjnambnglaa
open Go.RowKit
set_option linter.unusedSimpArgs false
set_option linter.unusedVariables false
attribute [local go_sem] World.cell?_alloc_some

theorem Oth.grown {r : Nat} {a w w' : World} {row : Option Nat} (h : Oth r a w) (hg : w.grownBy w' row) (hr : ∀ k, row = some k → a.heap.size ≤ k) : Oth r a w' :=
  ⟨hg.os.trans h.os, hg.tape.trans h.tape, hg.output.trans h.output, Nat.le_trans h.size hg.size, fun k hk hne => (hg.block k (Nat.lt_of_lt_of_le hk h.size) (fun e => by have := hr k e.symm; omega)).trans (h.block k hk hne)⟩
theorem rowq_oth {r : Nat} {w w' : World} {base : Nat} {e : TypeId} {sz : Nat} {v : Value} {n : Nat} {xs : List Value} (h : w.ownsRow base e sz v n xs) (k : Oth r w w') (hr : r < base) : w'.ownsRow base e sz v n xs :=
  rowg_frame h (fun b e => k.block b (World.ownsRow.lt h b e).2 (by have := (World.ownsRow.lt h b e).1; omega))
end Go.Proofs.Ytfmhdjnambnglaa

namespace Go.Proofs.Ytfmhdjnambnglaa
open Go.RowKit
set_option linter.unusedSimpArgs false
set_option linter.unusedVariables false
attribute [local go_sem] World.cell?_alloc_some

end Go.Proofs.Ytfmhdjnambnglaa
