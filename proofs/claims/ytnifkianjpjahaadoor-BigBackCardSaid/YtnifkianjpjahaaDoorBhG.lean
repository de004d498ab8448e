/- Big integers: Div by value, in one. -/
import Derived.Test.YtnifkianjpjahaaDoorBhF
namespace Go.Proofs.YtnifkianjpjahaaDoor.Bg
open Go.ChangeShapes Go.WideShapes Go.ChangeAt Go.RowKit Go.Proofs.YtnifkianjpjahaaDoor.Cell
set_option linter.unusedVariables false

theorem Div_val {x y : Int} {va vb : Value} (w : World) (hx : IsBig w va x) (hy : IsBig w vb y) (h0 : y ≠ 0) :
    Calls Tryd.prog 19 #[va, vb] w fun e w' => ∃ v1 v2, e = .returned (.tuple #[v1, v2, .int .i64 0]) ∧ IsBig w' v1 (dq x y) ∧ IsBig w' v2 (dr x y) ∧ Below w.heap.size w w' := by
  by_cases h : sg x * sg y < 0 ∧ (x.natAbs : Int) % y.natAbs ≠ 0
  · exact Div_neg w hx hy h0 h
  · exact Div_pos w hx hy h0 h
end Go.Proofs.YtnifkianjpjahaaDoor.Bg
