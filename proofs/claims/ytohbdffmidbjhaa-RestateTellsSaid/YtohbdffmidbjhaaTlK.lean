/- What is left of a function's code, for any law. -/
import Derived.Test.YtohbdffmidbjhaaRsK
import Derived.BigRegion
import Derived.Deep.Cut
import Derived.Deep.CutBlock
import Derived.Deep.DeepCutAuto
namespace Go.Proofs.Ytohbdffmidbjhaa.Rk
open Go.ChangeShapes Go.WideShapes Go.ChangeAt Go.RowKit Go.Proofs.Ytohbdffmidbjhaa.Cell
set_option linter.unusedVariables false
set_option linter.unusedSimpArgs false
/-- what is left of a function's code behind its first n statements -/
def tailC : Nat → Code → Code
  | 0, c => c
  | n + 1, .seq _ b => tailC n b
  | _ + 1, c => c
def tailO (n : Nat) : Option Code → Code
  | some c => tailC n c
  | none => .skip
def headC : Code → Code
  | .seq a _ => a
  | c => c
def headO (n : Nat) (o : Option Code) : Code := headC (tailO n o)
end Go.Proofs.Ytohbdffmidbjhaa.Rk
