/- What the list gives: the table of powers of ten. -/
import Derived.Test.YtbfehelhedjgjaaDoorLaidW
import Derived.Test.YtbfehelhedjgjaaDoorDatT
import Derived.Stop.LaidErr
import Derived.Lib.LaidTab
namespace Go.Proofs.YtbfehelhedjgjaaDoor.LaidP
open Go.ChangeShapes Go.WideShapes Go.ChangeAt Go.RowKit
theorem gty : (Tryd.prog.globals[2]?).map (·.type) = some 73 := by kernel_rfl
theorem c1 : Tryd.prog.cellsOf 53 = 1 := by kernel_rfl
theorem c20 : Tryd.prog.cellsOf 73 = 20 := by kernel_rfl
theorem powtab {W : World} (h : laidMet Tryd.prog LaidW.laidL W) : Dat.PowTab W :=
  Lib.tabIs_of_head Dat.gPow gty Tryd.underlying73 Tryd.underlying53 c1 c20 (Go.laidMet.tail (Go.laidMet.tail h))
end Go.Proofs.YtbfehelhedjgjaaDoor.LaidP
