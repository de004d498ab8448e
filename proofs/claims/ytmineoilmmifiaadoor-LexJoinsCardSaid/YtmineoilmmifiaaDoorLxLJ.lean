/- LexJoins over strings as they come. -/
import Derived.Test.YtmineoilmmifiaaDoorLLxJ
namespace Go.Proofs.YtmineoilmmifiaaDoor.Lx
open Go.ChangeShapes Go.WideShapes Go.ChangeAt Go.RowKit
theorem str_list (s : ByteArray) : Value.string s = .string ⟨s.data.toList.toArray⟩ := by
  cases s
  simp
theorem joins_law (w : World) (s t : ByteArray) {u : Int} (hu : (Lit.int .u8 u).wf = true) (hE : Ev w w) : Calls Tryd.prog 6 #[.string s, .string t, .int .u8 u] w fun e w' => e = .returned (.bool true) ∧ Below w.heap.size w w' := by
  rw [str_list s, str_list t]
  simp [Lit.wf, IntKind.min, IntKind.max, IntKind.signed, IntKind.bits] at hu
  exact joins_any hE (by omega) (by omega)
end Go.Proofs.YtmineoilmmifiaaDoor.Lx
