/- An indenture, opened. -/
import Derived.Test.YtdndlipenjkfpaaRows
import Derived.Test.YtdndlipenjkfpaaOpn
import Derived.Test.YtdndlipenjkfpaaSchB
import Derived.Lib.SmallJoins
import Derived.WalkKit
import Derived.ProofKit
import Derived.OpenShut
import Derived.Deep.Slices
import Derived.Deep.Fields
import Derived.ChangeSame
import Derived.WideKeyArgs
namespace Go.Proofs.Ytdndlipenjkfpaa.Opened
open Go.Proofs.Ytdndlipenjkfpaa Go.ChangeShapes Go.WideShapes Go.ChangeAt Go.RowKit Go.Deep
set_option linter.unusedVariables false

theorem cellsTm : Try.prog.cellsOf 46 = 25 := by kernel_rfl
theorem at_of_take {α : Type} {l : List α} {i : Nat} {a : α} (h : (l.drop i).take 1 = [a]) : l[i]? = some a := by
  have := congrArg (fun x => x[0]?) h
  simpa [List.getElem?_take, List.getElem?_drop] using this
section
variable {H : Type} {enc : TypeId × Value → H} {W : World} {b0 : Nat} {r : Reach}
theorem int_field {n : Nat} {cs : Array Value} {i : Nat} {xs : List (DataW H × List MemPlace)} (hl : i < xs.length)
    (h : DataW.trod enc Try.prog W 0 (fun _ => true) true n 3 ((cs.toList.drop i).take 1) = xs[i]?) : ∃ x, cs[i]? = some (.int .i64 x) := by
  rw [List.getElem?_eq_getElem hl] at h
  obtain ⟨x, e, _, _⟩ := DataW.trod_int Try.underlying3 h
  exact ⟨x, by rw [← Array.getElem?_toList]; exact at_of_take e⟩
theorem open_tm {v : Value} {d : DataW H} {p : List MemPlace} (hv : Value.okWide Try.prog W r b0 46 v) (h : DataW.Trod enc Try.prog W 0 (fun _ => true) true 46 v d p) :
    ∃ (cs : Array Value) (fr to ev ad re : Int), v = .agg cs ∧ Dat.Tm cs fr to ev ad re := by
  obtain ⟨cs, rfl, hsz⟩ := okWide_struct Try.underlying46 hv
  rw [cellsTm] at hsz
  obtain ⟨fuel, hf⟩ := h
  obtain ⟨xs, n, _, _, hl, hlen, hF⟩ := DataW.trod_struct Try.underlying46 hf
  have hlen' : xs.length = 21 := hlen
  have hcs : (Value.agg cs).cells = cs := rfl
  rw [hcs] at hF
  obtain ⟨fr, h3⟩ := int_field (i := 3) (by omega) (hF 3 _ rfl)
  obtain ⟨to, h4⟩ := int_field (i := 4) (by omega) (hF 4 _ rfl)
  obtain ⟨ev, h5⟩ := int_field (i := 5) (by omega) (hF 5 _ rfl)
  obtain ⟨ad, h7⟩ := int_field (i := 7) (by omega) (hF 7 _ rfl)
  obtain ⟨re, h8⟩ := int_field (i := 8) (by omega) (hF 8 _ rfl)
  exact ⟨cs, fr, to, ev, ad, re, rfl, hsz, h3, h4, h5, h7, h8⟩
end
end Go.Proofs.Ytdndlipenjkfpaa.Opened
