/- The reference's ring: Sign and Valid. -/
import Derived.Test.YtblegaclcpoonabSelM
namespace Go.Proofs.Ytblegaclcpoonab.Seal
open Go.ChangeShapes Go.WideShapes Go.ChangeAt Go.RowKit Go.Joins Go.Maps Go.WideMaps Go.Proofs.Ytblegaclcpoonab.Cell
set_option linter.unusedVariables false
set_option linter.unusedSimpArgs false

/-- an answer that holds if the signature's entry stands at its mark -/
def Hol (L : List En) (k : Int) (s : ByteArray) (mk : Int) (b : Bool) : Prop := b = true ↔ ∃ p : Nat, L[p]? = some (k, s) ∧ mk = p
end Go.Proofs.Ytblegaclcpoonab.Seal
