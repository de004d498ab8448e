/- What the list gives: the table of powers of ten. -/
import Derived.Test.YtnifkianjpjahaaDoorLaidW
import Derived.Test.YtnifkianjpjahaaDoorBhL
import Derived.Stop.LaidErr
import Derived.Lib.LaidTab
namespace Go.Proofs.YtnifkianjpjahaaDoor.LaidP
open Go.ChangeShapes Go.WideShapes Go.ChangeAt Go.RowKit
theorem gty : (Tryd.prog.globals[0]?).map (·.type) = some 112 := by kernel_rfl
theorem c1 : Tryd.prog.cellsOf 49 = 1 := by kernel_rfl
theorem c20 : Tryd.prog.cellsOf 112 = 20 := by kernel_rfl
theorem powtab {W : World} (h : laidMet Tryd.prog LaidW.laidL W) : Bg.PowTab W :=
  Lib.tabIs_of_head Bg.gPow gty Tryd.underlying112 Tryd.underlying49 c1 c20 (Go.laidMet.tail (Go.laidMet.tail h))
end Go.Proofs.YtnifkianjpjahaaDoor.LaidP
