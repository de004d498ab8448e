/- What the list gives: the table of powers of ten, and the two errors of strconv. -/
import Derived.Test.YtapcfnlononniaaDoorLaidW
import Derived.Test.YtapcfnlononniaaDoorWrD
import Derived.Stop.LaidErr
import Derived.Lib.LaidTab
import Derived.ChangeBears2
import Derived.LaidLaws
namespace Go.Proofs.YtapcfnlononniaaDoor.LaidP
open Go.ChangeShapes Go.WideShapes Go.ChangeAt Go.RowKit
theorem gty : (Tryd.prog.globals[0]?).map (·.type) = some 93 := by kernel_rfl
theorem c1 : Tryd.prog.cellsOf 79 = 1 := by kernel_rfl
theorem c20 : Tryd.prog.cellsOf 93 = 20 := by kernel_rfl
theorem powtab {W : World} (h : laidMet Tryd.prog LaidW.laidL W) : Wr.PowTab W :=
  Lib.tabIs_of_head Wr.gPow gty Tryd.underlying93 Tryd.underlying79 c1 c20 (Go.laidMet.tail (Go.laidMet.tail h))
theorem gR : Tryd.prog.globalNamed "strconv.ErrRange" = some 3 := by kernel_rfl
theorem gS : Tryd.prog.globalNamed "strconv.ErrSyntax" = some 2 := by kernel_rfl
theorem tR : (Tryd.prog.globals[3]?).map (·.type) = some 69 := by kernel_rfl
theorem tS : (Tryd.prog.globals[2]?).map (·.type) = some 69 := by kernel_rfl
theorem star : "*" ++ "errors.errorString" = "*errors.errorString" := by decide
theorem rowE (u : TypeId) (h : Tryd.prog.typeName? 3 u = some "*errors.errorString") : u = 107 :=
  typeName_ptr_named (nm := "errors.errorString") (by rw [star]; kernel_rfl) (by kernel_rfl) (by decide) u (by rw [star]; exact h)
theorem cE : Tryd.prog.cellsOf 109 = 1 := by kernel_rfl
theorem cS : Tryd.prog.cellsOf 9 = 1 := by kernel_rfl
theorem sent3 {W : World} (h : laidMet Tryd.prog LaidW.laidL W) : Wr.Sent W 3 := by
  obtain ⟨a, s, hv, _⟩ := laid_sentinel (Go.laidMet.tail (Go.laidMet.tail (Go.laidMet.tail h))) gR tR Tryd.underlying69 rowE Tryd.underlying107 Tryd.underlying109 rfl rfl Tryd.underlying9 cE cS
  exact ⟨_, World.var?_cell gR hv 0, .inr ⟨_, _, rfl⟩⟩
theorem sent2 {W : World} (h : laidMet Tryd.prog LaidW.laidL W) : Wr.Sent W 2 := by
  obtain ⟨a, s, hv, _⟩ := laid_sentinel (Go.laidMet.tail (Go.laidMet.tail (Go.laidMet.tail (Go.laidMet.tail h)))) gS tS Tryd.underlying69 rowE Tryd.underlying107 Tryd.underlying109 rfl rfl Tryd.underlying9 cE cS
  exact ⟨_, World.var?_cell gS hv 0, .inr ⟨_, _, rfl⟩⟩
theorem en {W : World} (h : laidMet Tryd.prog LaidW.laidL W) : Wr.En W W := ⟨Below.refl _ _, powtab h, sent2 h, sent3 h⟩
end Go.Proofs.YtapcfnlononniaaDoor.LaidP
