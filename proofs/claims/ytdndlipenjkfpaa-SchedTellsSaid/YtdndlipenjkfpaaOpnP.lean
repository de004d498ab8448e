/- A slice of periods, opened. -/
import Derived.Test.YtdndlipenjkfpaaOpnT
import Derived.Test.YtdndlipenjkfpaaSchC
namespace Go.Proofs.Ytdndlipenjkfpaa.Opened
open Go.Proofs.Ytdndlipenjkfpaa Go.ChangeShapes Go.WideShapes Go.ChangeAt Go.RowKit Go.Deep
set_option linter.unusedVariables false

theorem cellsPer : Try.prog.cellsOf 58 = 4 := by kernel_rfl
section
variable {H : Type} {enc : TypeId × Value → H} {W : World} {b0 : Nat} {r : Reach}
theorem int_of1 {fuel : Nat} {v : Value} {y : DataW H × List MemPlace} (h : DataW.trod enc Try.prog W 0 (fun _ => true) true fuel 3 [v] = some y) : ∃ x, v = .int .i64 x := by
  obtain ⟨x, e, _, _⟩ := DataW.trod_int Try.underlying3 h
  exact ⟨x, by simpa using e⟩
theorem open_per {v : Value} {d : DataW H} {p : List MemPlace} (hv : Value.okWide Try.prog W r b0 47 v) (h : DataW.Trod enc Try.prog W 0 (fun _ => true) true 47 v d p) :
    ∃ (A : Option Addr) (cap : Nat) (l : List Dat.Pr), v = .slice A l.length cap ∧ Dat.Pers W A l ∧ l.length ≤ 9223372036854775807 := by
  obtain ⟨a0, len0, cap0, rfl⟩ := okWide_slice Try.underlying47 hv
  obtain ⟨fuel, hf⟩ := h
  have hv1 : (Value.slice a0 len0 cap0).cells.toList = [.slice a0 len0 cap0] := rfl
  rw [hv1] at hf
  rcases open_slice_fields Try.underlying47 Try.underlying58 (by kernel_rfl) cellsPer hf with ⟨hcs, hx⟩ | ⟨a, len', cap', m, D, Pl, hcs, _, hl, hm, hmm, hx, hi⟩
  · simp at hcs
    obtain ⟨rfl, rfl, rfl⟩ := hcs
    exact ⟨none, 0, [], rfl, Dat.Pers.nil, by simp⟩
  · simp at hcs
    obtain ⟨rfl, rfl, rfl⟩ := hcs
    simp only [if_true] at hmm
    subst hmm
    unfold maxLen at hm
    have cell : ∀ i, i < m → ∀ j, j < 4 → ∃ x, W.cell? (a.add (i * 4 + j)) = some (.int .i64 x) := by
      intro i him j hj
      obtain ⟨ys, n, _, _, _, hF⟩ := hi i him
      match j, hj with
      | 0, _ =>
        obtain ⟨v, y, hc, _, ht⟩ := hF 0 _ rfl
        obtain ⟨x, rfl⟩ := int_of1 ht
        exact ⟨x, hc⟩
      | 1, _ =>
        obtain ⟨v, y, hc, _, ht⟩ := hF 1 _ rfl
        obtain ⟨x, rfl⟩ := int_of1 ht
        exact ⟨x, hc⟩
      | 2, _ =>
        obtain ⟨v, y, hc, _, ht⟩ := hF 2 _ rfl
        obtain ⟨x, rfl⟩ := int_of1 ht
        exact ⟨x, hc⟩
      | 3, _ =>
        obtain ⟨v, y, hc, _, ht⟩ := hF 3 _ rfl
        obtain ⟨x, rfl⟩ := int_of1 ht
        exact ⟨x, hc⟩
    obtain ⟨b, off, spot⟩ := a
    let val : Nat → Int := fun k => match W.cell? ⟨b, off + k, none⟩ with | some (Value.int .i64 x) => x | _ => 0
    refine ⟨some ⟨b, off, spot⟩, m, (List.range len0).map fun i => (val (i * 4), val (i * 4 + 1), val (i * 4 + 2), val (i * 4 + 3)), by simp, fun h0 => ?_, by simp; omega⟩
    have h0' : 0 < len0 := by simpa using h0
    have hspot : spot = none := by
      obtain ⟨x, hx⟩ := cell 0 (by omega) 0 (by omega)
      simpa [Addr.add] using World.cell?_spot hx
    subst hspot
    refine ⟨b, off, rfl, fun j t hj => ?_⟩
    have hj1 : j < len0 := by
      have := (List.getElem?_eq_some_iff.1 hj).1
      simpa using this
    rw [List.getElem?_map, List.getElem?_range hj1] at hj
    simp only [Option.map_some, Option.some.injEq] at hj
    subst hj
    have at_ : ∀ k, k < 4 → W.cell? ⟨b, off + (j * 4 + k), none⟩ = some (.int .i64 (val (j * 4 + k))) := by
      intro k hk
      obtain ⟨x, hx⟩ := cell j (by omega) k hk
      rw [add_of] at hx
      have hv : val (j * 4 + k) = x := by simp only [val, hx]
      rw [hv, hx]
    exact ⟨at_ 0 (by omega), at_ 1 (by omega), at_ 2 (by omega), at_ 3 (by omega)⟩
end
end Go.Proofs.Ytdndlipenjkfpaa.Opened
