/- Lists of entries, opened. -/
import Derived.Test.YtblegaclcpoonabOpn
import Derived.Test.YtblegaclcpoonabSelG
import Derived.Lib.SmallJoins
namespace Go.Proofs.Ytblegaclcpoonab.Seal
open Go.ChangeShapes Go.WideShapes Go.ChangeAt Go.RowKit Go.Deep Go.Proofs.Ytblegaclcpoonab.Opened Go.Proofs.Ytblegaclcpoonab.Cell
set_option linter.unusedVariables false
def cI (o : Option Value) : Int := match o with | some (.int _ n) => n | _ => 0
def cS (o : Option Value) : ByteArray := match o with | some (.string s) => s | _ => ⟨#[]⟩
theorem range_at {α : Type} (n : Nat) (f : Nat → α) {j : Nat} {x : α} (h : ((List.range n).map f)[j]? = some x) : j < n ∧ x = f j := by
  rw [List.getElem?_map] at h
  obtain ⟨hj, e⟩ : j < n ∧ some (f j) = some x := by
    by_cases hj : j < n
    · rw [List.getElem?_range hj] at h; exact ⟨hj, h⟩
    · rw [List.getElem?_eq_none (by simp; omega)] at h; simp at h
  exact ⟨hj, (Option.some.inj e).symm⟩
section
variable {H : Type} {enc : TypeId × Value → H} {W : World} {b0 : Nat} {r : Reach}
theorem open_els {v : Value} {d : DataW H} {p : List MemPlace} (hv : Value.okWide Try.prog W r b0 22 v) (h : DataW.Trod enc Try.prog W 0 (fun _ => true) true 22 v d p) :
    ∃ (A : Option Addr) (cap : Nat) (l : List En), v = .slice A l.length cap ∧ Els W A l ∧ l.length ≤ 9223372036854775807 ∧ ∀ x ∈ l, okE x := by
  obtain ⟨a0, len, cap, rfl⟩ := okWide_slice Try.underlying22 hv
  obtain ⟨fuel, hf⟩ := h
  rcases open_slice_fields Try.underlying22 Try.underlying24 (by kernel_rfl) cellsE hf with ⟨hcs, hx⟩ | ⟨a, len', cap', m, D, Pl, hcs, _, hl, hm, hmm, hx, hi⟩
  · simp [Value.cells] at hcs
    obtain ⟨rfl, rfl, rfl⟩ := hcs
    exact ⟨none, 0, [], rfl, fun h => absurd h (by simp), by simp, by simp⟩
  · simp [Value.cells] at hcs
    obtain ⟨rfl, rfl, rfl⟩ := hcs
    simp only [if_true] at hmm
    unfold maxLen at hm
    have each : ∀ i, i < len → (W.cell? (a.add (i * 2 + 0)) = some (.int .i64 (cI (W.cell? (a.add (i * 2 + 0))))) ∧ (Lit.int .i64 (cI (W.cell? (a.add (i * 2 + 0))))).wf = true) ∧ (W.cell? (a.add (i * 2 + 1)) = some (.string (cS (W.cell? (a.add (i * 2 + 1))))) ∧ (cS (W.cell? (a.add (i * 2 + 1)))).size ≤ maxLen) := by
      intro i hlt
      obtain ⟨ys, n, _, _, _, hg⟩ := hi i (by omega)
      refine ⟨?_, ?_⟩
      · obtain ⟨v0, y0, c0, _, t0⟩ := hg 0 _ rfl
        obtain ⟨x0, e0, _, wf0⟩ := DataW.trod_int Try.underlying3 t0
        simp at e0
        subst e0
        have c0' : W.cell? (a.add (i * 2 + 0)) = some (.int .i64 x0) := c0
        exact ⟨by rw [c0']; rfl, by rw [c0']; exact wf0⟩
      · obtain ⟨v0, y0, c0, _, t0⟩ := hg 1 _ rfl
        obtain ⟨x0, e0, s0⟩ := DataW.trod_string Try.underlying9 t0
        simp at e0
        subst e0
        have c0' : W.cell? (a.add (i * 2 + 1)) = some (.string x0) := c0
        exact ⟨by rw [c0']; rfl, by rw [c0']; first | exact s0.1 | exact s0.2 | exact s0⟩
    obtain ⟨b, off, spot⟩ := a
    refine ⟨some ⟨b, off, spot⟩, cap, (List.range len).map fun i => ((cI (W.cell? ((⟨b, off, spot⟩ : Addr).add (i * 2 + 0))), cS (W.cell? ((⟨b, off, spot⟩ : Addr).add (i * 2 + 1)))) : En), by simp, fun h0 => ?_, by simp; omega, fun x hx => ?_⟩
    · have h0' : 0 < len := by simpa using h0
      have hspot : spot = none := by simpa [Addr.add] using World.cell?_spot (each 0 h0').1.1
      subst hspot
      refine ⟨b, off, rfl, fun j q hj => ?_⟩
      obtain ⟨hj1, rfl⟩ := range_at _ _ hj
      have := each j hj1
      simp only [add_of] at this
      simp only [add_of]
      exact ⟨this.1.1, this.2.1⟩
    · obtain ⟨i, hi1, rfl⟩ := List.mem_map.1 hx
      have := each i (List.mem_range.1 hi1)
      exact ⟨this.1.2, this.2.2⟩
end
end Go.Proofs.Ytblegaclcpoonab.Seal
