/- A trade by value, opened. -/
import Derived.Test.YtpekedhcnijgcaaRows
import Derived.Test.YtpekedhcnijgcaaOpnE
import Derived.WalkKit
import Derived.ProofKit
import Derived.OpenShut
import Derived.Deep.Slices
import Derived.Deep.Fields
import Derived.ChangeSame
import Derived.WideKeyArgs
namespace Go.Proofs.Ytpekedhcnijgcaa.Opened
open Go.Proofs.Ytpekedhcnijgcaa Go.ChangeShapes Go.WideShapes Go.ChangeAt Go.RowKit Go.Deep
set_option linter.unusedVariables false

theorem at_of_take {α : Type} {l : List α} {i : Nat} {a : α} (h : (l.drop i).take 1 = [a]) : l[i]? = some a := by
  have := congrArg (fun x => x[0]?) h
  simpa [List.getElem?_take, List.getElem?_drop] using this
section
variable {H : Type} {enc : TypeId × Value → H} {W : World} {b0 : Nat} {r : Reach}
theorem int_field {n : Nat} {cs : Array Value} {i : Nat} {xs : List (DataW H × List MemPlace)} (hl : i < xs.length)
    (h : DataW.trod enc Try.prog W 0 (fun _ => true) true n 3 ((cs.toList.drop i).take 1) = xs[i]?) : ∃ x, cs[i]? = some (.int .i64 x) := by
  rw [List.getElem?_eq_getElem hl] at h
  obtain ⟨x, e, _, _⟩ := DataW.trod_int Try.underlying3 h
  exact ⟨x, by rw [← Array.getElem?_toList]; exact at_of_take e⟩
theorem open_tr1 {v : Value} {d : DataW H} {p : List MemPlace} (hv : Value.okWide Try.prog W r b0 26 v) (h : DataW.Trod enc Try.prog W 0 (fun _ => true) true 26 v d p) :
    ∃ x : Book.Tr, v = .agg (Book.tcs x).toArray := by
  obtain ⟨cs, rfl, hsz⟩ := okWide_struct Try.underlying26 hv
  rw [cells_trd] at hsz
  obtain ⟨fuel, hf⟩ := h
  obtain ⟨xs, n, _, _, hl, hlen, hF⟩ := DataW.trod_struct Try.underlying26 hf
  have hlen' : xs.length = 8 := hlen
  have hcs : (Value.agg cs).cells = cs := rfl
  rw [hcs] at hF
  obtain ⟨k, h0⟩ := int_field (i := 0) (by omega) (hF 0 _ rfl)
  obtain ⟨f, h1⟩ := int_field (i := 1) (by omega) (hF 1 _ rfl)
  obtain ⟨t, h2⟩ := int_field (i := 2) (by omega) (hF 2 _ rfl)
  obtain ⟨u, h3⟩ := int_field (i := 3) (by omega) (hF 3 _ rfl)
  obtain ⟨m, h4⟩ := int_field (i := 4) (by omega) (hF 4 _ rfl)
  obtain ⟨d, h5⟩ := int_field (i := 5) (by omega) (hF 5 _ rfl)
  obtain ⟨o, h6⟩ := int_field (i := 6) (by omega) (hF 6 _ rfl)
  obtain ⟨b, h7⟩ := int_field (i := 7) (by omega) (hF 7 _ rfl)
  refine ⟨⟨k, f, t, u, m, d, o, b⟩, congrArg Value.agg (Array.ext_getElem? fun i => ?_)⟩
  by_cases hi : i < 8
  · match i, hi with
    | 0, _ => exact h0
    | 1, _ => exact h1
    | 2, _ => exact h2
    | 3, _ => exact h3
    | 4, _ => exact h4
    | 5, _ => exact h5
    | 6, _ => exact h6
    | 7, _ => exact h7
  · rw [Array.getElem?_eq_none (by omega), Array.getElem?_eq_none (by simp [Book.tcs]; omega)]
end
end Go.Proofs.Ytpekedhcnijgcaa.Opened
