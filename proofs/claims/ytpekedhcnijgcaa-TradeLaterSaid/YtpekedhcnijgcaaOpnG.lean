/- Trades, opened with their capacity. -/
import Derived.Test.YtpekedhcnijgcaaOpnE
namespace Go.Proofs.Ytpekedhcnijgcaa.Opened
open Go.Proofs.Ytpekedhcnijgcaa Go.ChangeShapes Go.WideShapes Go.ChangeAt Go.RowKit Go.Deep
set_option linter.unusedVariables false
section
variable {H : Type} {enc : TypeId × Value → H} {W : World} {b0 : Nat} {r : Reach}
theorem open_trdC {v : Value} {d : DataW H} {p : List MemPlace} (hv : Value.okWide Try.prog W r b0 24 v) (h : DataW.Trod enc Try.prog W 0 (fun _ => true) true 24 v d p) :
    ∃ (A : Option Addr) (cap : Nat) (l : List (Book.Tr)), v = .slice A l.length cap ∧ Book.Trs W A l ∧ l.length ≤ 9223372036854775807 ∧ l.length ≤ cap := by
  obtain ⟨a0, len, cap, rfl⟩ := okWide_slice Try.underlying24 hv
  obtain ⟨fuel, hf⟩ := h
  rcases open_slice_fields Try.underlying24 Try.underlying26 (by kernel_rfl) cells_trd hf with ⟨hcs, hx⟩ | ⟨a, len', cap', m, D, Pl, hcs, _, hl, hm, hmm, hx, hi⟩
  · simp [Value.cells] at hcs
    obtain ⟨rfl, rfl, rfl⟩ := hcs
    exact ⟨none, 0, [], rfl, fun h => absurd h (by simp), by simp, by simp⟩
  · simp [Value.cells] at hcs
    obtain ⟨rfl, rfl, rfl⟩ := hcs
    simp only [if_true] at hmm
    unfold maxLen at hm
    have each : ∀ i, i < len → ∀ j, j < 8 → W.cell? (a.add (i * 8 + j)) = some (.int .i64 (cI (W.cell? (a.add (i * 8 + j))))) := by
      intro i hlt j hj
      obtain ⟨ys, n, _, _, _, hg⟩ := hi i (by omega)
      have key : ∃ x, W.cell? (a.add (i * 8 + j)) = some (.int .i64 x) := by
        match j, hj with
        | 0, _ =>
          obtain ⟨v0, y0, c0, _, t0⟩ := hg 0 _ rfl
          obtain ⟨x0, e0, _, _⟩ := DataW.trod_int Try.underlying3 t0
          simp at e0
          subst e0
          exact ⟨x0, c0⟩
        | 1, _ =>
          obtain ⟨v0, y0, c0, _, t0⟩ := hg 1 _ rfl
          obtain ⟨x0, e0, _, _⟩ := DataW.trod_int Try.underlying3 t0
          simp at e0
          subst e0
          exact ⟨x0, c0⟩
        | 2, _ =>
          obtain ⟨v0, y0, c0, _, t0⟩ := hg 2 _ rfl
          obtain ⟨x0, e0, _, _⟩ := DataW.trod_int Try.underlying3 t0
          simp at e0
          subst e0
          exact ⟨x0, c0⟩
        | 3, _ =>
          obtain ⟨v0, y0, c0, _, t0⟩ := hg 3 _ rfl
          obtain ⟨x0, e0, _, _⟩ := DataW.trod_int Try.underlying3 t0
          simp at e0
          subst e0
          exact ⟨x0, c0⟩
        | 4, _ =>
          obtain ⟨v0, y0, c0, _, t0⟩ := hg 4 _ rfl
          obtain ⟨x0, e0, _, _⟩ := DataW.trod_int Try.underlying3 t0
          simp at e0
          subst e0
          exact ⟨x0, c0⟩
        | 5, _ =>
          obtain ⟨v0, y0, c0, _, t0⟩ := hg 5 _ rfl
          obtain ⟨x0, e0, _, _⟩ := DataW.trod_int Try.underlying3 t0
          simp at e0
          subst e0
          exact ⟨x0, c0⟩
        | 6, _ =>
          obtain ⟨v0, y0, c0, _, t0⟩ := hg 6 _ rfl
          obtain ⟨x0, e0, _, _⟩ := DataW.trod_int Try.underlying3 t0
          simp at e0
          subst e0
          exact ⟨x0, c0⟩
        | 7, _ =>
          obtain ⟨v0, y0, c0, _, t0⟩ := hg 7 _ rfl
          obtain ⟨x0, e0, _, _⟩ := DataW.trod_int Try.underlying3 t0
          simp at e0
          subst e0
          exact ⟨x0, c0⟩
      obtain ⟨x, hx⟩ := key
      rw [hx]; rfl
    obtain ⟨b, off, spot⟩ := a
    refine ⟨some ⟨b, off, spot⟩, cap, (List.range len).map fun i => (⟨cI (W.cell? ((⟨b, off, spot⟩ : Addr).add (i * 8 + 0))), cI (W.cell? ((⟨b, off, spot⟩ : Addr).add (i * 8 + 1))), cI (W.cell? ((⟨b, off, spot⟩ : Addr).add (i * 8 + 2))), cI (W.cell? ((⟨b, off, spot⟩ : Addr).add (i * 8 + 3))), cI (W.cell? ((⟨b, off, spot⟩ : Addr).add (i * 8 + 4))), cI (W.cell? ((⟨b, off, spot⟩ : Addr).add (i * 8 + 5))), cI (W.cell? ((⟨b, off, spot⟩ : Addr).add (i * 8 + 6))), cI (W.cell? ((⟨b, off, spot⟩ : Addr).add (i * 8 + 7)))⟩ : Book.Tr), by simp, fun h0 => ?_, by simp; omega, by simp; omega⟩
    have h0' : 0 < len := by simpa using h0
    have hspot : spot = none := by simpa [Addr.add] using World.cell?_spot (each 0 h0' 0 (by omega))
    subst hspot
    refine ⟨b, off, rfl, fun j q hj => ?_⟩
    obtain ⟨hj1, rfl⟩ := range_at _ _ hj
    have := each j hj1
    simp only [add_of] at this
    simp only [add_of]
    exact ⟨this 0 (by omega), this 1 (by omega), this 2 (by omega), this 3 (by omega), this 4 (by omega), this 5 (by omega), this 6 (by omega), this 7 (by omega)⟩
end
end Go.Proofs.Ytpekedhcnijgcaa.Opened
