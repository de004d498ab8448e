/- LexPlaces over strings as they come. -/
import Derived.Test.YtmineoilmmifiaaDoorLLxP
namespace Go.Proofs.YtmineoilmmifiaaDoor.Lx
open Go.ChangeShapes Go.WideShapes Go.ChangeAt Go.RowKit
theorem str_list (s : ByteArray) : Value.string s = .string ⟨s.data.toList.toArray⟩ := by
  cases s
  simp
theorem places_law (w : World) (s : ByteArray) (hE : Ev w w) : Calls Tryd.prog 5 #[.string s] w fun e w' => e = .returned (.bool true) ∧ Below w.heap.size w w' := by
  rw [str_list s]
  exact places_any hE
end Go.Proofs.YtmineoilmmifiaaDoor.Lx
