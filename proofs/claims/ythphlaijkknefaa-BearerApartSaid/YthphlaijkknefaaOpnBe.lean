/- Lists of pieces, opened. -/
import Derived.Test.YthphlaijkknefaaOpn
import Derived.Test.YthphlaijkknefaaBeaA
import Derived.Deep.Grids
import Derived.Lib.SmallJoins
namespace Go.Proofs.Ythphlaijkknefaa.Bea
open Go.ChangeShapes Go.WideShapes Go.ChangeAt Go.RowKit Go.Deep Go.Proofs.Ythphlaijkknefaa.Opened Go.Proofs.Ythphlaijkknefaa.Cell
set_option linter.unusedVariables false
def cI (o : Option Value) : Int := match o with | some (.int _ n) => n | _ => 0
theorem cellsB : Try.prog.cellsOf 4 = 1 := by kernel_rfl
theorem cellsP : Try.prog.cellsOf 36 = 5 := by kernel_rfl
theorem range_at {α : Type} (n : Nat) (f : Nat → α) {j : Nat} {x : α} (h : ((List.range n).map f)[j]? = some x) : j < n ∧ x = f j := by
  rw [List.getElem?_map] at h
  obtain ⟨hj, e⟩ : j < n ∧ some (f j) = some x := by
    by_cases hj : j < n
    · rw [List.getElem?_range hj] at h; exact ⟨hj, h⟩
    · rw [List.getElem?_eq_none (by simp; omega)] at h; simp at h
  exact ⟨hj, (Option.some.inj e).symm⟩
section
variable {H : Type} {enc : TypeId × Value → H} {W : World} {b0 : Nat} {r : Reach}
theorem bools_of {fuel : Nat} {v : Value} {y : DataW H × List MemPlace} (hf : DataW.trod enc Try.prog W 0 (fun _ => true) true fuel 34 [v] = some y) :
    ∃ (A : Option Addr) (cap : Nat) (zs : List Bool), v = .slice A zs.length cap ∧ Boos W A zs ∧ zs.length ≤ 9223372036854775807 := by
  rcases open_bools Try.underlying34 Try.underlying4 cellsB hf with ⟨hcs, hx⟩ | ⟨a, len, cap, B, hcs, _, hl, hm, hx, hcell⟩
  · simp at hcs
    subst hcs
    exact ⟨none, 0, [], rfl, fun h => absurd h (by simp), by simp⟩
  · simp at hcs
    subst hcs
    unfold maxLen at hm
    refine ⟨some a, cap, (List.range len).map B, by simp, fun h0 => ?_, by simp; omega⟩
    have h0' : 0 < len := by simpa using h0
    obtain ⟨b, off, spot⟩ := a
    have hspot : spot = none := by simpa [Addr.add] using World.cell?_spot (hcell 0 (by omega))
    subst hspot
    refine ⟨b, off, rfl, fun j z hj => ?_⟩
    obtain ⟨hj1, rfl⟩ := range_at _ _ hj
    have := hcell j (by omega)
    rw [add_of] at this
    exact this
theorem u8_in {a : Int} (h : (Lit.int .u8 a).wf = true) : 0 ≤ a ∧ a ≤ 255 := by
  simp [Lit.wf, IntKind.min, IntKind.max, IntKind.signed, IntKind.bits] at h
  omega
theorem u16_in {a : Int} (h : (Lit.int .u16 a).wf = true) : 0 ≤ a ∧ a ≤ 65535 := by
  simp [Lit.wf, IntKind.min, IntKind.max, IntKind.signed, IntKind.bits] at h
  omega
instance : Inhabited Pc := ⟨⟨0, 0, [], 0, 0⟩⟩
theorem open_pcl {v : Value} {d : DataW H} {p : List MemPlace} (hv : Value.okWide Try.prog W r b0 22 v) (h : DataW.Trod enc Try.prog W 0 (fun _ => true) true 22 v d p) :
    ∃ (A : Option Addr) (cap : Nat) (l : List Pc), v = .slice A l.length cap ∧ Pcl W A l ∧ (∀ x ∈ l, x.pd.length ≤ 9223372036854775807) ∧ l.length ≤ 9223372036854775807 := by
  obtain ⟨a0, len, cap, rfl⟩ := okWide_slice Try.underlying22 hv
  obtain ⟨fuel, hf⟩ := h
  rcases open_slice_fields Try.underlying22 Try.underlying36 (by kernel_rfl) cellsP hf with ⟨hcs, hx⟩ | ⟨a, len', cap', m, D, Pl, hcs, _, hl, hm, hmm, hx, hi⟩
  · simp [Value.cells] at hcs
    obtain ⟨rfl, rfl, rfl⟩ := hcs
    exact ⟨none, 0, [], rfl, fun h => absurd h (by simp), by simp, by simp⟩
  · simp [Value.cells] at hcs
    obtain ⟨rfl, rfl, rfl⟩ := hcs
    simp only [if_true] at hmm
    unfold maxLen at hm
    obtain ⟨b, off, spot⟩ := a
    have hsp : 0 < len → spot = none := fun h0 => by
      obtain ⟨ys, n, _, _, _, hg⟩ := hi 0 (by omega)
      obtain ⟨v0, y0, c0, _, t0⟩ := hg 0 _ rfl
      simpa [Addr.add] using World.cell?_spot c0
    have each : ∀ i, i < len → ∃ x : Pc, (spot = none → PcAt W b (off + i * 5) x) ∧ x.pd.length ≤ 9223372036854775807 := by
      intro i hlt
      obtain ⟨ys, n, _, _, _, hg⟩ := hi i (by omega)
      obtain ⟨v0, y0, c0, _, t0⟩ := hg 0 _ rfl
      obtain ⟨v1, y1, c1, _, t1⟩ := hg 1 _ rfl
      obtain ⟨v2, y2, c2, _, t2⟩ := hg 2 _ rfl
      obtain ⟨v3, y3, c3, _, t3⟩ := hg 3 _ rfl
      obtain ⟨v4, y4, c4, _, t4⟩ := hg 4 _ rfl
      obtain ⟨x0, e0, _, _⟩ := DataW.trod_int Try.underlying3 t0
      obtain ⟨x1, e1, _, _⟩ := DataW.trod_int Try.underlying3 t1
      obtain ⟨A2, q2, z2, e2, hb2, hl2⟩ := bools_of t2
      obtain ⟨x3, e3, _, _⟩ := DataW.trod_int Try.underlying3 t3
      obtain ⟨x4, e4, _, _⟩ := DataW.trod_int Try.underlying3 t4
      simp at e0 e1 e3 e4
      subst e0 e1 e2 e3 e4
      refine ⟨⟨x0, x1, z2, x3, x4⟩, fun hs => ?_, hl2⟩
      subst hs
      simp only [add_of] at c0 c1 c2 c3 c4
      exact ⟨c0, c1, ⟨A2, q2, c2, hb2⟩, c3, c4⟩
    obtain ⟨X, hX⟩ := choose_lt (α := Pc) (p := fun i x => (spot = none → PcAt W b (off + i * 5) x) ∧ x.pd.length ≤ 9223372036854775807) each
    refine ⟨some ⟨b, off, spot⟩, cap, (List.range len).map X, by simp, fun h0 => ?_, fun x hx => ?_, by simp; omega⟩
    · have h0' : 0 < len := by simpa using h0
      have hspot := hsp h0'
      subst hspot
      refine ⟨b, off, rfl, fun j q hj => ?_⟩
      obtain ⟨hj1, rfl⟩ := range_at _ _ hj
      exact (hX j hj1).1 rfl
    · obtain ⟨i, hi1, rfl⟩ := List.mem_map.1 hx
      exact (hX i (List.mem_range.1 hi1)).2
end
end Go.Proofs.Ythphlaijkknefaa.Bea
