/- A signature, and an entry, opened. -/
import Derived.Test.YtblegaclcpoonabOpnS
namespace Go.Proofs.Ytblegaclcpoonab.Seal
open Go.ChangeShapes Go.WideShapes Go.ChangeAt Go.RowKit Go.Deep Go.Proofs.Ytblegaclcpoonab.Opened Go.Proofs.Ytblegaclcpoonab.Cell
set_option linter.unusedVariables false
theorem cellsG : Try.prog.cellsOf 31 = 3 := by kernel_rfl
section
variable {H : Type} {enc : TypeId × Value → H} {W : World} {b0 : Nat} {r : Reach}
theorem open_sg {v : Value} {d : DataW H} {p : List MemPlace} (hv : Value.okWide Try.prog W r b0 31 v) (h : DataW.Trod enc Try.prog W 0 (fun _ => true) true 31 v d p) :
    ∃ (k : Int) (s : ByteArray) (m : Int), v = .agg #[.int .i64 k, .string s, .int .i64 m] ∧ okE (k, s) := by
  obtain ⟨v0, v1, v2, y0, y1, y2, n, rfl, rfl, rfl, h0, h1, h2⟩ := Joins.open_agg3 Try.underlying31 (by kernel_rfl) cellsG hv h
  obtain ⟨k, e0, _, wf⟩ := DataW.trod_int Try.underlying3 h0
  obtain ⟨s, e1, hs⟩ := DataW.trod_string Try.underlying9 h1
  obtain ⟨m, e2, _, _⟩ := DataW.trod_int Try.underlying3 h2
  simp at e0 e1 e2
  subst e0 e1 e2
  exact ⟨k, s, m, rfl, wf, by first | exact hs.1 | exact hs.2 | exact hs⟩
theorem open_se {v : Value} {d : DataW H} {p : List MemPlace} (hv : Value.okWide Try.prog W r b0 24 v) (h : DataW.Trod enc Try.prog W 0 (fun _ => true) true 24 v d p) :
    ∃ (k : Int) (s : ByteArray), v = .agg #[.int .i64 k, .string s] ∧ okE (k, s) := by
  obtain ⟨v0, v1, y0, y1, n, rfl, rfl, rfl, h0, h1⟩ := Joins.open_agg2 Try.underlying24 (by kernel_rfl) cellsE hv h
  obtain ⟨k, e0, _, wf⟩ := DataW.trod_int Try.underlying3 h0
  obtain ⟨s, e1, hs⟩ := DataW.trod_string Try.underlying9 h1
  simp at e0 e1
  subst e0 e1
  exact ⟨k, s, rfl, wf, by first | exact hs.1 | exact hs.2 | exact hs⟩
end
end Go.Proofs.Ytblegaclcpoonab.Seal
