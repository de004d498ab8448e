/- Operations of a script, opened. -/
import Derived.Test.YtblegaclcpoonabOpn
import Derived.Test.YtblegaclcpoonabAgD
import Derived.Lib.SmallJoins
namespace Go.Proofs.Ytblegaclcpoonab.Agent
open Go.ChangeShapes Go.WideShapes Go.ChangeAt Go.RowKit Go.Deep Go.Proofs.Ytblegaclcpoonab.Opened Go.Proofs.Ytblegaclcpoonab.Cell
set_option linter.unusedVariables false
/-- an operation -/
structure Ap where
  k : Int
  w : Int
  t : Int
  n : Int
def At4 (w : World) (b o : Nat) (x : Ap) : Prop := w.cell? ⟨b, o, none⟩ = some (.int .i64 x.k) ∧ w.cell? ⟨b, o + 1, none⟩ = some (.int .i64 x.w) ∧ w.cell? ⟨b, o + 2, none⟩ = some (.int .i64 x.t) ∧ w.cell? ⟨b, o + 3, none⟩ = some (.int .i64 x.n)
theorem At4.keep {w w1 : World} {b o : Nat} {x : Ap} (h : At4 w b o x) (hb : Below w.heap.size w w1) : At4 w1 b o x := ⟨keep0 hb _ _ _ h.1, keep0 hb _ _ _ h.2.1, keep0 hb _ _ _ h.2.2.1, keep0 hb _ _ _ h.2.2.2⟩
def Aps (w : World) (A : Option Addr) (l : List Ap) : Prop := 0 < l.length → ∃ b off, A = some ⟨b, off, none⟩ ∧ ∀ j x, l[j]? = some x → At4 w b (off + j * 4) x
theorem Aps.keep {w w1 : World} {A : Option Addr} {l : List Ap} (h : Aps w A l) (hb : Below w.heap.size w w1) : Aps w1 A l := fun h0 => by
  obtain ⟨b, off, e, hc⟩ := h h0
  exact ⟨b, off, e, fun j x hx => (hc j x hx).keep hb⟩
def cI (o : Option Value) : Int := match o with | some (.int _ n) => n | _ => 0
theorem range_at {α : Type} (n : Nat) (f : Nat → α) {j : Nat} {x : α} (h : ((List.range n).map f)[j]? = some x) : j < n ∧ x = f j := by
  rw [List.getElem?_map] at h
  obtain ⟨hj, e⟩ : j < n ∧ some (f j) = some x := by
    by_cases hj : j < n
    · rw [List.getElem?_range hj] at h; exact ⟨hj, h⟩
    · rw [List.getElem?_eq_none (by simp; omega)] at h; simp at h
  exact ⟨hj, (Option.some.inj e).symm⟩
theorem cells_ap : Try.prog.cellsOf 57 = 4 := by kernel_rfl
section
variable {H : Type} {enc : TypeId × Value → H} {W : World} {b0 : Nat} {r : Reach}
theorem open_aps {v : Value} {d : DataW H} {p : List MemPlace} (hv : Value.okWide Try.prog W r b0 50 v) (h : DataW.Trod enc Try.prog W 0 (fun _ => true) true 50 v d p) :
    ∃ (A : Option Addr) (cap : Nat) (l : List Ap), v = .slice A l.length cap ∧ Aps W A l ∧ l.length ≤ 9223372036854775807 := by
  obtain ⟨a0, len, cap, rfl⟩ := okWide_slice Try.underlying50 hv
  obtain ⟨fuel, hf⟩ := h
  rcases open_slice_fields Try.underlying50 Try.underlying57 (by kernel_rfl) cells_ap hf with ⟨hcs, hx⟩ | ⟨a, len', cap', m, D, Pl, hcs, _, hl, hm, hmm, hx, hi⟩
  · simp [Value.cells] at hcs
    obtain ⟨rfl, rfl, rfl⟩ := hcs
    exact ⟨none, 0, [], rfl, fun h => absurd h (by simp), by simp⟩
  · simp [Value.cells] at hcs
    obtain ⟨rfl, rfl, rfl⟩ := hcs
    simp only [if_true] at hmm
    unfold maxLen at hm
    have each : ∀ i, i < len → ∀ j, j < 4 → W.cell? (a.add (i * 4 + j)) = some (.int .i64 (cI (W.cell? (a.add (i * 4 + j))))) := by
      intro i hlt j hj
      obtain ⟨ys, n, _, _, _, hg⟩ := hi i (by omega)
      have key : ∃ x, W.cell? (a.add (i * 4 + j)) = some (.int .i64 x) := by
        match j, hj with
        | 0, _ =>
          obtain ⟨v0, y0, c0, _, t0⟩ := hg 0 _ rfl
          obtain ⟨x0, e0, _, _⟩ := DataW.trod_int Try.underlying3 t0
          simp at e0
          subst e0
          exact ⟨x0, c0⟩
        | 1, _ =>
          obtain ⟨v0, y0, c0, _, t0⟩ := hg 1 _ rfl
          obtain ⟨x0, e0, _, _⟩ := DataW.trod_int Try.underlying3 t0
          simp at e0
          subst e0
          exact ⟨x0, c0⟩
        | 2, _ =>
          obtain ⟨v0, y0, c0, _, t0⟩ := hg 2 _ rfl
          obtain ⟨x0, e0, _, _⟩ := DataW.trod_int Try.underlying3 t0
          simp at e0
          subst e0
          exact ⟨x0, c0⟩
        | 3, _ =>
          obtain ⟨v0, y0, c0, _, t0⟩ := hg 3 _ rfl
          obtain ⟨x0, e0, _, _⟩ := DataW.trod_int Try.underlying3 t0
          simp at e0
          subst e0
          exact ⟨x0, c0⟩
      obtain ⟨x, hx⟩ := key
      rw [hx]; rfl
    obtain ⟨b, off, spot⟩ := a
    refine ⟨some ⟨b, off, spot⟩, cap, (List.range len).map fun i => (⟨cI (W.cell? ((⟨b, off, spot⟩ : Addr).add (i * 4 + 0))), cI (W.cell? ((⟨b, off, spot⟩ : Addr).add (i * 4 + 1))), cI (W.cell? ((⟨b, off, spot⟩ : Addr).add (i * 4 + 2))), cI (W.cell? ((⟨b, off, spot⟩ : Addr).add (i * 4 + 3)))⟩ : Ap), by simp, fun h0 => ?_, by simp; omega⟩
    have h0' : 0 < len := by simpa using h0
    have hspot : spot = none := by simpa [Addr.add] using World.cell?_spot (each 0 h0' 0 (by omega))
    subst hspot
    refine ⟨b, off, rfl, fun j q hj => ?_⟩
    obtain ⟨hj1, rfl⟩ := range_at _ _ hj
    have := each j hj1
    simp only [add_of] at this
    simp only [add_of]
    exact ⟨this 0 (by omega), this 1 (by omega), this 2 (by omega), this 3 (by omega)⟩
end
end Go.Proofs.Ytblegaclcpoonab.Agent
