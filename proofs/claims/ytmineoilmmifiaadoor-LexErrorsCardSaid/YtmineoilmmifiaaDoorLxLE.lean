/- LexErrors over strings as they come. -/
import Derived.Test.YtmineoilmmifiaaDoorLLxE
namespace Go.Proofs.YtmineoilmmifiaaDoor.Lx
open Go.ChangeShapes Go.WideShapes Go.ChangeAt Go.RowKit
theorem str_list (s : ByteArray) : Value.string s = .string ⟨s.data.toList.toArray⟩ := by
  cases s
  simp
theorem errors_law (w : World) (s : ByteArray) (hE : Ev w w) : Calls Tryd.prog 7 #[.string s] w fun e w' => e = .returned (.bool true) ∧ Below w.heap.size w w' := by
  rw [str_list s]
  exact errors_any hE
end Go.Proofs.YtmineoilmmifiaaDoor.Lx
