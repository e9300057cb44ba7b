/- What comes of a program that is turned. -/
import Derived.Test.YtfmhdjnambnglaaVsTmt
import Derived.Test.YtfmhdjnambnglaaVsTmw
import Derived.Test.YtfmhdjnambnglaaVsDpr
import Derived.Test.YtfmhdjnambnglaaVsRpp
namespace Go.Proofs.Ytfmhdjnambnglaa
open Go.RowKit
set_option linter.unusedSimpArgs false
set_option linter.unusedVariables false
attribute [local go_sem] World.cell?_alloc_some

/-- What comes of a program that is turned. -/
def TpPost (w : World) (ok : Bool) (ls : List (Int × Int)) (d : Nat) (T : Tr d) (e : Ending) (w' : World) : Prop := ∃ lv sv b1 b2, e = .returned (.tuple #[.agg #[lv, sv], .bool ok]) ∧ Below w.heap.size w w' ∧ LOwn w' lv ls b1 ∧ Own w' d sv T b2 ∧ (∀ b ∈ b1 ++ b2, w.heap.size ≤ b ∧ b < w'.heap.size) ∧ b2.Nodup ∧ ∀ b ∈ b1, b ∉ b2
theorem own_noT (w : World) : ∀ d : Nat, Own w d (.slice none 0 0) (noT d) []
  | 0 => ⟨⟨_, _, rfl⟩, rfl⟩
  | d + 1 => .inl ⟨rfl, ⟨_, _, rfl, by unfold maxLen; omega⟩, rfl⟩
theorem own_empty (w : World) : ∀ (d : Nat) (T : Tr d), ln d T = 0 → Own w d (.slice none 0 0) T []
  | 0, _, _ => ⟨⟨_, _, rfl⟩, rfl⟩
  | d + 1, (l : List (Pay × Tr d × Tr d)), h => .inl ⟨h, ⟨_, _, rfl, by unfold maxLen; omega⟩, rfl⟩
theorem TpPost.none {w w' : World} {ls : List (Int × Int)} {d : Nat} {T : Tr d} {ok : Bool} (hok : ok = false) (hl : ls = []) (hT : T = noT d) (hb : Below w.heap.size w w') : TpPost w ok ls d T (.returned (.tuple #[.agg #[.slice none 0 0, .slice none 0 0], .bool false])) w' := by
  subst hok hl hT
  exact ⟨_, _, [], [], rfl, hb, .inl ⟨rfl, ⟨_, _, rfl, by unfold maxLen; omega⟩, rfl⟩, own_noT _ _, by simp, by simp, by simp⟩
def tpOk (zs : List Int) (ls : List (Int × Int)) (d : Nat) (T : Tr d) : Bool := progB ls d T && rowB zs 3
def tpL (zs : List Int) (ls : List (Int × Int)) (d : Nat) (T : Tr d) : List (Int × Int) := if tpOk zs ls d T then turnLs zs ls else []
def tpT (zs : List Int) (ls : List (Int × Int)) (d : Nat) (T : Tr d) : Tr d := if tpOk zs ls d T then mapT (hostF zs) d T else noT d
def tvOk (zs : List Int) (ls : List (Int × Int)) (d : Nat) (T : Tr d) : Bool := progB ls d T && rowB zs ls.length
def tvL (zs : List Int) (ls : List (Int × Int)) (d : Nat) (T : Tr d) : List (Int × Int) := if tvOk zs ls d T then movL zs ls else []
def tvT (zs : List Int) (ls : List (Int × Int)) (d : Nat) (T : Tr d) : Tr d := if tvOk zs ls d T then mapT (varF zs) d T else noT d
theorem progB4 {ls : List (Int × Int)} {d : Nat} {T : Tr d} (h : progB ls d T = true) : ls.length ≤ 4 ∧ labsB ls = true ∧ stB ls.length d 3 T = true ∧ cnt d T ≤ 8 := by
  unfold progB at h
  simp only [Bool.and_eq_true, decide_eq_true_eq] at h
  exact ⟨h.1, h.2.1, h.2.2.1, h.2.2.2⟩
theorem stB_zero : ∀ (d : Nat) (deep : Int) (T : Tr d), stB 0 d deep T = true → ln d T = 0
  | 0, _, _, _ => rfl
  | d + 1, deep, (l : List (Pay × Tr d × Tr d)), h => by
    match l, h with
    | [], _ => rfl
    | x :: l, h =>
      exfalso
      have := List.all_eq_true.1 h x (by simp)
      simp [payB, vIn] at this
      omega

end Go.Proofs.Ytfmhdjnambnglaa
