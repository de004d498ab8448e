/- The example of the statements of book, 'small', returns true. -/
import Derived.Test.YtpekedhcnijgcaaBookD
namespace Go.Proofs.Ytpekedhcnijgcaa.Book
open Go.ChangeShapes Go.WideShapes Go.ChangeAt Go.RowKit Go.Proofs.Ytpekedhcnijgcaa.Cell
set_option linter.unusedVariables false
set_option linter.unusedSimpArgs false

def uv : List Int := [0, 0, 5, 7, 2]
def av : List Int := [0, 0, 5, 4, 5]
section
variable {g g' : Nat} (w : World) (hc : Prs w (some ⟨g, 0, none⟩) fv)
theorem x_move {f t x E : Int} {L : List Int} {k : Nat} (hc : Prs w (some ⟨g, 0, none⟩) fv) (hc' : Ints w (some ⟨g', 0, none⟩) uv) (hE : mvE fv uv f t x = E) (hL : mvR fv uv f t x = L) (hk : L.length = k) :
    Calls Try.prog 69 #[.slice (some ⟨g, 0, none⟩) 5 5, .slice (some ⟨g', 0, none⟩) 5 5, .int .i64 f, .int .i64 t, .int .i64 x] w fun e w' => ∃ A c, e = .returned (.tuple #[.slice A k c, .int .i64 E]) ∧ Below w.heap.size w w' ∧ Ints w' A L := by
  have h := move_any (some ⟨g, 0, none⟩) 5 5 fv (some ⟨g', 0, none⟩) 5 5 uv f t x w rfl hc (by omega) rfl hc' (by omega)
  unfold MovePost at h
  rw [hE, hL, hk] at h
  exact h
theorem x_held {i x : Int} (hc : Prs w (some ⟨g, 0, none⟩) fv) (hc' : Ints w (some ⟨g', 0, none⟩) uv) (h : hO fv uv i = x) :
    Calls Try.prog 25 #[.slice (some ⟨g, 0, none⟩) 5 5, .slice (some ⟨g', 0, none⟩) 5 5, .int .i64 i] w fun e w' => e = .returned (.int .i64 x) ∧ Below w.heap.size w w' := held_is w rfl hc (by omega) rfl hc' (by omega) h
theorem x_ints {A : Option Addr} {c : Nat} (hc : Ints w A av) (hc' : Ints w (some ⟨g', 0, none⟩) av) : Calls Try.prog 19 #[.slice A 5 c, .slice (some ⟨g', 0, none⟩) 5 5] w fun e w' => e = .returned (.bool true) ∧ Below w.heap.size w w' := by
  have hh := ints_any A 5 c av (some ⟨g', 0, none⟩) 5 5 av w rfl hc (by omega) rfl hc' (by omega)
  rw [show iEq av av = true from decide_eq_true rfl] at hh
  exact hh
end
theorem u_new (w : World) : Ints (w.alloc (.cells #[.int .i64 0, .int .i64 0, .int .i64 5, .int .i64 7, .int .i64 2] 3)) (some ⟨w.heap.size, 0, none⟩) uv := (Row.new w 3 (ics uv)).ints
theorem a_new {w : World} {g : Nat} (h : g = w.heap.size) : Ints (w.alloc (.cells #[.int .i64 0, .int .i64 0, .int .i64 5, .int .i64 4, .int .i64 5] 3)) (some ⟨g, 0, none⟩) av := (Gen.rowAt w 3 (ics av) h).ints

end Go.Proofs.Ytpekedhcnijgcaa.Book
