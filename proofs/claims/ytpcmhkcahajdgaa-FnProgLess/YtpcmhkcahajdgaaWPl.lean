/- A program's first steps are one, and so is the rest: the law, walked. -/
import Derived.Test.YtpcmhkcahajdgaaDok
import Derived.Test.YtpcmhkcahajdgaaBnt
namespace Go.Proofs.Ytpcmhkcahajdgaa
open Go.RowKit
set_option linter.unusedVariables false

theorem bentOk : BentOk := by
  intro w r m lv sv ls T hrd hm hL hR l1 l4 hc
  refine (l71Bent_any w r m lv sv ls T hrd hm hL hR l1 l4 hc).mono ?_
  rintro e w' ⟨lv', sv', ls', d, l, rfl, hL', hR', ll, cn, rd, ot⟩
  exact ⟨lv', sv', ls', d, l, rfl, fun wz hz => ⟨(hL'.frame (P' := fun _ => True) (fun b p _ => ⟨hz b p, trivial⟩)).rep, (hR'.frame (P' := fun _ => True) (fun b p _ => ⟨hz b p, trivial⟩)).rep⟩, by omega, ot⟩
theorem fnProgLess_walk (a0 : Option Addr) (len0 cap0 : Nat) (z0 : List Int) (a1 : Option Addr) (len1 cap1 : Nat) (z1 : List Int) (w : World) (h0 : IsRow .u8 w a0 len0 cap0 z0) (h1 : IsRow .u8 w a1 len1 cap1 z1) :
    Calls Try.prog 3 #[.slice a0 len0 cap0, .slice a1 len1 cap1] w fun e w' => e = .returned (.bool true) ∧ Below w.heap.size w w' :=
  fnProgLess_of a0 len0 cap0 a1 len1 cap1 w (drawsOk_of bentOk w a0 len0 cap0 z0 h0)

end Go.Proofs.Ytpcmhkcahajdgaa
