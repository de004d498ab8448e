/- Big integers, opened; what the list gives (OpnBg and LaidB in one). -/
import Derived.Lib.LaidTab
import Derived.Stop.LaidErr
import Derived.Test.YtnifkianjpjahaaDoorBhL
import Derived.Test.YtnifkianjpjahaaDoorBhN
import Derived.Test.YtnifkianjpjahaaDoorLaidW
import Derived.Test.YtnifkianjpjahaaDoorOpn
namespace Go.Proofs.YtnifkianjpjahaaDoor.Bg
open Go.ChangeShapes Go.WideShapes Go.ChangeAt Go.RowKit Go.Deep Go.Proofs.YtnifkianjpjahaaDoor.Opened Go.Proofs.YtnifkianjpjahaaDoor.Cell
set_option linter.unusedVariables false
theorem cellsBg : Tryd.prog.cellsOf 24 = 2 := by kernel_rfl
section
variable {H : Type} {enc : TypeId × Value → H} {W : World} {b0 : Nat} {r : Reach}
set_option maxRecDepth 100000 in
theorem open_big {v : Value} {d : DataW H} {p : List MemPlace} (hv : Value.okWide Tryd.prog W r b0 24 v) (h : DataW.Trod enc Tryd.prog W 0 (fun _ => true) true 24 v d p) :
    ∃ (s : Int) (A : Option Addr) (c : Nat) (l : List Int), v = .agg #[.int .i64 s, .slice A l.length c] ∧ Arg W v l.length s l := by
  obtain ⟨v0, v1, y0, y1, n, rfl, rfl, rfl, h0, h1⟩ := Joins.open_agg2 Tryd.underlying24 (by kernel_rfl) cellsBg hv h
  obtain ⟨x0, e0, _, _⟩ := DataW.trod_int Tryd.underlying3 h0
  obtain ⟨A, c, l, rfl, i, k⟩ := ints_of h1
  simp at e0
  subst e0
  exact ⟨x0, A, c, l, rfl, A, c, rfl, rfl, i, k⟩
end
end Go.Proofs.YtnifkianjpjahaaDoor.Bg
namespace Go.Proofs.YtnifkianjpjahaaDoor.LaidP
open Go.ChangeShapes Go.WideShapes Go.ChangeAt Go.RowKit
theorem gty : (Tryd.prog.globals[0]?).map (·.type) = some 112 := by kernel_rfl
theorem c1 : Tryd.prog.cellsOf 49 = 1 := by kernel_rfl
theorem c20 : Tryd.prog.cellsOf 112 = 20 := by kernel_rfl
theorem powtab {W : World} (h : laidMet Tryd.prog LaidW.laidL W) : Bg.PowTab W :=
  Lib.tabIs_of_head Bg.gPow gty Tryd.underlying112 Tryd.underlying49 c1 c20 (Go.laidMet.tail (Go.laidMet.tail h))
end Go.Proofs.YtnifkianjpjahaaDoor.LaidP
