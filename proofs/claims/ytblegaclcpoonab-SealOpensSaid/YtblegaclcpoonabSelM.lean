/- The reference's ring: what is kept of one; New, find, All, Valid. -/
import Derived.Test.YtblegaclcpoonabSelK
import Derived.BigQuiet
namespace Go.Proofs.Ytblegaclcpoonab.Seal
open Go.ChangeShapes Go.WideShapes Go.ChangeAt Go.RowKit Go.Joins Go.Maps Go.WideMaps Go.Proofs.Ytblegaclcpoonab.Cell
set_option linter.unusedVariables false
set_option linter.unusedSimpArgs false

/-- where an entry is -/
def Fnd (L : List En) (x : En) (v : Int) : Prop := (v = -1 ∧ x ∉ L) ∨ ∃ p : Nat, v = p ∧ L[p]? = some x
end Go.Proofs.Ytblegaclcpoonab.Seal
