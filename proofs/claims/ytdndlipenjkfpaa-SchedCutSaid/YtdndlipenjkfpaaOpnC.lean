/- An indenture, opened: its cells are one cell each. -/
import Derived.Test.YtdndlipenjkfpaaOpnT
import Derived.Test.YtdndlipenjkfpaaSchK
namespace Go.Proofs.Ytdndlipenjkfpaa.Opened
open Go.Proofs.Ytdndlipenjkfpaa Go.ChangeShapes Go.WideShapes Go.ChangeAt Go.RowKit Go.Deep
set_option linter.unusedVariables false

section
variable {H : Type} {enc : TypeId × Value → H} {W : World} {b0 : Nat} {r : Reach}
theorem open_tm1 {v : Value} {d : DataW H} {p : List MemPlace} (hv : Value.okWide Try.prog W r b0 46 v) (h : DataW.Trod enc Try.prog W 0 (fun _ => true) true 46 v d p) :
    ∃ (cs : Array Value) (fr to ev ad re : Int), v = .agg cs ∧ Dat.Tm cs fr to ev ad re ∧ cs.all (·.oneCell') = true := by
  obtain ⟨cs, fr, to, ev, ad, re, rfl, ht⟩ := open_tm hv h
  exact ⟨cs, fr, to, ev, ad, re, rfl, ht, Dat.all_one Try.underlying46 hv⟩
end
end Go.Proofs.Ytdndlipenjkfpaa.Opened
