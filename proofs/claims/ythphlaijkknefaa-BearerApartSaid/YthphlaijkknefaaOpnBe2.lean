/- Lists of pieces with their capacity, and something that happens, opened. -/
import Derived.Test.YthphlaijkknefaaOpnBe
import Derived.WideKeyArgs
namespace Go.Proofs.Ythphlaijkknefaa.Bea
open Go.ChangeShapes Go.WideShapes Go.ChangeAt Go.RowKit Go.Deep Go.Proofs.Ythphlaijkknefaa.Opened Go.Proofs.Ythphlaijkknefaa.Cell
set_option linter.unusedVariables false
theorem at_of_take {α : Type} {l : List α} {i : Nat} {a : α} (h : (l.drop i).take 1 = [a]) : l[i]? = some a := by
  have := congrArg (fun x => x[0]?) h
  simpa [List.getElem?_take, List.getElem?_drop] using this
section
variable {H : Type} {enc : TypeId × Value → H} {W : World} {b0 : Nat} {r : Reach}
theorem int_field {n : Nat} {cs : Array Value} {i : Nat} {xs : List (DataW H × List MemPlace)} (hl : i < xs.length)
    (h : DataW.trod enc Try.prog W 0 (fun _ => true) true n 3 ((cs.toList.drop i).take 1) = xs[i]?) : ∃ x, cs[i]? = some (.int .i64 x) := by
  rw [List.getElem?_eq_getElem hl] at h
  obtain ⟨x, e, _, _⟩ := DataW.trod_int Try.underlying3 h
  exact ⟨x, by rw [← Array.getElem?_toList]; exact at_of_take e⟩
theorem cellsAct : Try.prog.cellsOf 27 = 5 := by kernel_rfl
theorem open_act {v : Value} {d : DataW H} {p : List MemPlace} (hv : Value.okWide Try.prog W r b0 27 v) (h : DataW.Trod enc Try.prog W 0 (fun _ => true) true 27 v d p) :
    ∃ k q c s t : Int, v = .agg #[.int .i64 k, .int .i64 q, .int .i64 c, .int .i64 s, .int .i64 t] := by
  obtain ⟨cs, rfl, hsz⟩ := okWide_struct Try.underlying27 hv
  rw [cellsAct] at hsz
  obtain ⟨fuel, hf⟩ := h
  obtain ⟨xs, n, _, _, hl, hlen, hF⟩ := DataW.trod_struct Try.underlying27 hf
  have hlen' : xs.length = 5 := hlen
  have hcs : (Value.agg cs).cells = cs := rfl
  rw [hcs] at hF
  obtain ⟨k, h0⟩ := int_field (i := 0) (by omega) (hF 0 _ rfl)
  obtain ⟨f, h1⟩ := int_field (i := 1) (by omega) (hF 1 _ rfl)
  obtain ⟨t, h2⟩ := int_field (i := 2) (by omega) (hF 2 _ rfl)
  obtain ⟨u, h3⟩ := int_field (i := 3) (by omega) (hF 3 _ rfl)
  obtain ⟨m, h4⟩ := int_field (i := 4) (by omega) (hF 4 _ rfl)
  refine ⟨k, f, t, u, m, congrArg Value.agg (Array.ext_getElem? fun i => ?_)⟩
  by_cases hi : i < 5
  · match i, hi with
    | 0, _ => exact h0
    | 1, _ => exact h1
    | 2, _ => exact h2
    | 3, _ => exact h3
    | 4, _ => exact h4
  · rw [Array.getElem?_eq_none (by omega), Array.getElem?_eq_none (by simp; omega)]
theorem open_pcl2 {v : Value} {d : DataW H} {p : List MemPlace} (hv : Value.okWide Try.prog W r b0 22 v) (h : DataW.Trod enc Try.prog W 0 (fun _ => true) true 22 v d p) :
    ∃ (A : Option Addr) (cap : Nat) (l : List Pc), v = .slice A l.length cap ∧ Pcl W A l ∧ (∀ x ∈ l, x.pd.length ≤ 9223372036854775807) ∧ l.length ≤ 9223372036854775807 ∧ l.length ≤ cap := by
  obtain ⟨A, cap, l, rfl, h1, h2, h3⟩ := open_pcl hv h
  refine ⟨A, cap, l, rfl, h1, h2, h3, ?_⟩
  obtain ⟨fuel, hf⟩ := h
  rcases open_slice_fields Try.underlying22 Try.underlying36 (by kernel_rfl) cellsP hf with ⟨hcs, hx⟩ | ⟨a, len', cap', m, D, Pl, hcs, _, hl, hm, hmm, hx, hi⟩
  · simp [Value.cells] at hcs
    simp [hcs.2.1]
  · simp [Value.cells] at hcs
    omega
end
end Go.Proofs.Ythphlaijkknefaa.Bea
