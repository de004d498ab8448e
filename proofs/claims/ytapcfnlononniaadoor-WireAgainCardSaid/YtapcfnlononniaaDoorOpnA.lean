/- WireAgain over strings as they come. -/
import Derived.Test.YtapcfnlononniaaDoorOpnW
import Derived.Test.YtapcfnlononniaaDoorLWrA
namespace Go.Proofs.YtapcfnlononniaaDoor.Wr
open Go.Lib Go.ChangeShapes Go.WideShapes Go.ChangeAt Go.RowKit
theorem again_law (w : World) (s : ByteArray) (what : Int) (hs : s.size ≤ maxLen) (hk : (Lit.int .i64 what).wf = true) (hE : En w w) :
    Calls Tryd.prog 6 #[.string s, .int .i64 what] w fun e w' => e = .returned (.bool true) ∧ Below w.heap.size w w' := by
  rw [str_list s]
  exact again_any w hE (by have h : s.data.toList.length ≤ maxLen := hs; unfold maxLen at h; omega) (i64_of hk)
end Go.Proofs.YtapcfnlononniaaDoor.Wr
