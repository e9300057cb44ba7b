/- Numbers of a program's variables. -/
import Derived.Test.YtfmhdjnambnglaaVqRwx
import Derived.Test.YtfmhdjnambnglaaVqImp
namespace Go.Proofs.Ytfmhdjnambnglaa
open Go.RowKit
set_option linter.unusedSimpArgs false
set_option linter.unusedVariables false
attribute [local go_sem] World.cell?_alloc_some

def tenB (zs : List Int) : Bool := zs.all fun z => vIn 10 z
def numsB (ls : List (Int × Int)) (d : Nat) (T : Tr d) (zs : List Int) : Bool := progB ls d T && (decide (zs.length = ls.length) && tenB zs)
end Go.Proofs.Ytfmhdjnambnglaa
