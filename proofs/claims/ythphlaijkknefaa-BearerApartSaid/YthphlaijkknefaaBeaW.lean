/- The law's list of things that happen, in memory. -/
import Derived.Test.YthphlaijkknefaaBeaV
import Derived.Test.YthphlaijkknefaaOpn
import Derived.Deep.Grids
import Derived.Lib.SmallJoins
namespace Go.Proofs.Ythphlaijkknefaa.Bea
open Go.ChangeShapes Go.WideShapes Go.ChangeAt Go.RowKit Go.Deep Go.Proofs.Ythphlaijkknefaa.Opened Go.Proofs.Ythphlaijkknefaa.Cell
set_option linter.unusedVariables false
set_option linter.unusedSimpArgs false
structure AcAt (w : World) (b p : Nat) (a : Ac) : Prop where
  c0 : w.cell? ⟨b, p, none⟩ = some (.int .i64 a.kd)
  c1 : w.cell? ⟨b, p + 1, none⟩ = some (.int .i64 a.pi)
  c2 : w.cell? ⟨b, p + 2, none⟩ = some (.int .i64 a.co)
  c3 : w.cell? ⟨b, p + 3, none⟩ = some (.int .i64 a.wh)
  c4 : w.cell? ⟨b, p + 4, none⟩ = some (.int .i64 a.dy)
def Acl (w : World) (A : Option Addr) (l : List Ac) : Prop := 0 < l.length → ∃ b off, A = some ⟨b, off, none⟩ ∧ ∀ (j : Nat) x, l[j]? = some x → AcAt w b (off + j * 5) x
theorem Acl.keep {w w1 : World} {A : Option Addr} {l : List Ac} (h : Acl w A l) (hb : Below w.heap.size w w1) : Acl w1 A l := fun h0 => by
  obtain ⟨b, off, e, hc⟩ := h h0
  refine ⟨b, off, e, fun j x hx => ?_⟩
  have c := hc j x hx
  exact ⟨Gen.keep hb c.c0, Gen.keep hb c.c1, Gen.keep hb c.c2, Gen.keep hb c.c3, Gen.keep hb c.c4⟩
instance : Inhabited Ac := ⟨⟨0, 0, 0, 0, 0⟩⟩
theorem cellsAc : Try.prog.cellsOf 27 = 5 := by kernel_rfl
section
variable {H : Type} {enc : TypeId × Value → H} {W : World} {b0 : Nat} {r : Reach}
theorem open_acl {v : Value} {d : DataW H} {p : List MemPlace} (hv : Value.okWide Try.prog W r b0 23 v) (h : DataW.Trod enc Try.prog W 0 (fun _ => true) true 23 v d p) :
    ∃ (A : Option Addr) (cap : Nat) (l : List Ac), v = .slice A l.length cap ∧ Acl W A l ∧ l.length ≤ 9223372036854775807 := by
  obtain ⟨a0, len, cap, rfl⟩ := okWide_slice Try.underlying23 hv
  obtain ⟨fuel, hf⟩ := h
  rcases open_slice_fields Try.underlying23 Try.underlying27 (by kernel_rfl) cellsAc hf with ⟨hcs, hx⟩ | ⟨a, len', cap', m, D, Pl, hcs, _, hl, hm, hmm, hx, hi⟩
  · simp [Value.cells] at hcs
    obtain ⟨rfl, rfl, rfl⟩ := hcs
    exact ⟨none, 0, [], rfl, fun h => absurd h (by simp), by simp⟩
  · simp [Value.cells] at hcs
    obtain ⟨rfl, rfl, rfl⟩ := hcs
    simp only [if_true] at hmm
    unfold maxLen at hm
    obtain ⟨b, off, spot⟩ := a
    have hsp : 0 < len → spot = none := fun h0 => by
      obtain ⟨ys, n, _, _, _, hg⟩ := hi 0 (by omega)
      obtain ⟨v0, y0, c0, _, t0⟩ := hg 0 _ rfl
      simpa [Addr.add] using World.cell?_spot c0
    have each : ∀ i, i < len → ∃ x : Ac, (spot = none → AcAt W b (off + i * 5) x) := by
      intro i hlt
      obtain ⟨ys, n, _, _, _, hg⟩ := hi i (by omega)
      obtain ⟨v0, y0, c0, _, t0⟩ := hg 0 _ rfl
      obtain ⟨v1, y1, c1, _, t1⟩ := hg 1 _ rfl
      obtain ⟨v2, y2, c2, _, t2⟩ := hg 2 _ rfl
      obtain ⟨v3, y3, c3, _, t3⟩ := hg 3 _ rfl
      obtain ⟨v4, y4, c4, _, t4⟩ := hg 4 _ rfl
      obtain ⟨x0, e0, _, _⟩ := DataW.trod_int Try.underlying3 t0
      obtain ⟨x1, e1, _, _⟩ := DataW.trod_int Try.underlying3 t1
      obtain ⟨x2, e2, _, _⟩ := DataW.trod_int Try.underlying3 t2
      obtain ⟨x3, e3, _, _⟩ := DataW.trod_int Try.underlying3 t3
      obtain ⟨x4, e4, _, _⟩ := DataW.trod_int Try.underlying3 t4
      simp at e0 e1 e2 e3 e4
      subst e0 e1 e2 e3 e4
      refine ⟨⟨x0, x1, x2, x3, x4⟩, fun hs => ?_⟩
      subst hs
      simp only [add_of] at c0 c1 c2 c3 c4
      exact ⟨c0, c1, c2, c3, c4⟩
    obtain ⟨X, hX⟩ := choose_lt (α := Ac) (p := fun i x => (spot = none → AcAt W b (off + i * 5) x)) each
    refine ⟨some ⟨b, off, spot⟩, cap, (List.range len).map X, by simp, fun h0 => ?_, by simp; omega⟩
    have h0' : 0 < len := by simpa using h0
    have hspot := hsp h0'
    subst hspot
    refine ⟨b, off, rfl, fun j q hj => ?_⟩
    have hj1 : j < len := by have := lt_of_at hj; simpa using this
    have hj2 : q = X j := by
      rw [List.getElem?_map, List.getElem?_range hj1] at hj
      exact (Option.some.inj hj).symm
    subst hj2
    exact hX j hj1 rfl
end
end Go.Proofs.Ythphlaijkknefaa.Bea
