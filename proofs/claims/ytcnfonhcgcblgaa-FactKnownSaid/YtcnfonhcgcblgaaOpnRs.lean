/- Slices of records as arguments, for any law. -/
import Derived.Test.YtcnfonhcgcblgaaRsK
import Derived.Test.YtcnfonhcgcblgaaOpn
import Derived.Deep.Grids
import Derived.Lib.SmallJoins
namespace Go.Proofs.Ytcnfonhcgcblgaa.Rk
open Go.ChangeShapes Go.WideShapes Go.ChangeAt Go.RowKit Go.Deep Go.Proofs.Ytcnfonhcgcblgaa.Opened Go.Proofs.Ytcnfonhcgcblgaa.Cell
set_option linter.unusedVariables false
set_option linter.unusedSimpArgs false
theorem range_at {α : Type} (n : Nat) (f : Nat → α) {j : Nat} {x : α} (h : ((List.range n).map f)[j]? = some x) : j < n ∧ x = f j := by
  rw [List.getElem?_map] at h
  obtain ⟨hj, e⟩ : j < n ∧ some (f j) = some x := by
    by_cases hj : j < n
    · rw [List.getElem?_range hj] at h; exact ⟨hj, h⟩
    · rw [List.getElem?_eq_none (by simp; omega)] at h; simp at h
  exact ⟨hj, (Option.some.inj e).symm⟩
section
variable {H : Type} {enc : TypeId × Value → H} {W : World} {b0 : Nat} {r : Reach}
theorem int_of {b : Nat} {sp : Nat → Bool} {hd : Bool} {fuel : Nat} {cs : List Value} {y : Option (DataW H × List MemPlace)} (h : DataW.trod enc Try.prog W b sp hd fuel 3 cs = y) (hy : y.isSome = true) : ∃ x, cs = [.int .i64 x] := by
  obtain ⟨z, rfl⟩ := Option.isSome_iff_exists.1 hy
  obtain ⟨x, e, _, _⟩ := DataW.trod_int Try.underlying3 h
  exact ⟨x, e⟩
/-- a slice of records: where it lies, and what is in it -/
theorem rs_of {α : Type} [Inhabited α] {f : α → List Value} {K : Nat} {tS tE : TypeId} (hS : Try.prog.underlying tS = some (.slice tE)) (hK : Try.prog.cellsOf tE = K) (hf : ∀ x, (f x).length = K)
    (of : ∀ {b : Nat} {sp : Nat → Bool} {hd : Bool} {fuel : Nat} {cs : List Value} {y : DataW H × List MemPlace}, DataW.trod enc Try.prog W b sp hd fuel tE cs = some y → ∃ x : α, cs = f x) (hK0 : 0 < K)
    {fuel : Nat} {cs : List Value} {y : DataW H × List MemPlace} (h : DataW.trod enc Try.prog W 0 (fun _ => true) true fuel tS cs = some y) :
    ∃ (A : Option Addr) (cap : Nat) (l : List α), cs = [.slice A l.length cap] ∧ Rs f K W A l ∧ l.length ≤ 9223372036854775807 ∧ l.length ≤ cap := by
  rcases open_slice hS h with ⟨hcs, hx⟩ | ⟨a, len', cap', m, n, D, Pl, hcs, _, hl, hm, hmm, hx, hi⟩
  · exact ⟨none, 0, [], by rw [hcs]; rfl, Rs.nil _ _, by simp, by simp⟩
  · unfold maxLen at hm
    rw [hK] at hi
    obtain ⟨b, off, spot⟩ := a
    simp only [if_true] at hmm
    have hsp0 : 0 < len' → spot = none := fun h0 => by
      obtain ⟨cs', hc, ht⟩ := hi 0 (by omega)
      obtain ⟨x, rfl⟩ := of ht
      obtain ⟨_, hcl, hat⟩ := World.cells?_some hc
      obtain ⟨v0, hv0⟩ := at_ (f x) 0 (by rw [hf]; exact hK0)
      have := hat 0 (by omega)
      simpa [Addr.add] using World.cell?_spot (this.trans hv0)
    have each : ∀ i, i < len' → ∃ x : α, spot = none ∧ ∀ (r : Nat) v, (f x)[r]? = some v → W.cell? ⟨b, off + i * K + r, none⟩ = some v := by
      intro i hlt
      obtain ⟨cs', hc, ht⟩ := hi i (by omega)
      obtain ⟨x, rfl⟩ := of ht
      obtain ⟨_, hcl, hat⟩ := World.cells?_some hc
      have hsp := hsp0 (by omega)
      subst hsp
      refine ⟨x, rfl, fun r v hv => ?_⟩
      have hr := lt_of_at hv
      rw [hf] at hr
      have := hat r hr
      rw [add_of, add_of] at this
      exact this.trans hv
    obtain ⟨X, hX⟩ := choose_lt (α := α) (p := fun i x => spot = none ∧ ∀ (r : Nat) v, (f x)[r]? = some v → W.cell? ⟨b, off + i * K + r, none⟩ = some v) each
    refine ⟨some ⟨b, off, spot⟩, cap', (List.range len').map X, by rw [hcs]; simp, fun h0 => ?_, by simp; omega, by simpa using hl⟩
    have h0' : 0 < len' := by simpa using h0
    obtain ⟨hsp, _⟩ := hX 0 h0'
    subst hsp
    refine ⟨b, off, rfl, fun j q hj => ?_⟩
    obtain ⟨hj1, rfl⟩ := range_at _ _ hj
    exact (hX j hj1).2
/-- the same, with what is known of each record -/
theorem rq_of {α : Type} [Inhabited α] (Q : α → Prop) {f : α → List Value} {K : Nat} {tS tE : TypeId} (hS : Try.prog.underlying tS = some (.slice tE)) (hK : Try.prog.cellsOf tE = K) (hf : ∀ x, (f x).length = K)
    (of : ∀ {fuel : Nat} {cs : List Value} {y : DataW H × List MemPlace}, DataW.trod enc Try.prog W 0 (fun _ => true) true fuel tE cs = some y → ∃ x : α, cs = f x ∧ Q x) (hK0 : 0 < K)
    {fuel : Nat} {cs : List Value} {y : DataW H × List MemPlace} (h : DataW.trod enc Try.prog W 0 (fun _ => true) true fuel tS cs = some y) :
    ∃ (A : Option Addr) (cap : Nat) (l : List α), cs = [.slice A l.length cap] ∧ Rs f K W A l ∧ l.length ≤ 9223372036854775807 ∧ l.length ≤ cap ∧ ∀ x ∈ l, Q x := by
  rcases open_slice hS h with ⟨hcs, hx⟩ | ⟨a, len', cap', m, n, D, Pl, hcs, _, hl, hm, hmm, hx, hi⟩
  · exact ⟨none, 0, [], by rw [hcs]; rfl, Rs.nil _ _, by simp, by simp, by simp⟩
  · unfold maxLen at hm
    rw [hK] at hi
    obtain ⟨b, off, spot⟩ := a
    simp only [if_true] at hmm
    have hsp0 : 0 < len' → spot = none := fun h0 => by
      obtain ⟨cs', hc, ht⟩ := hi 0 (by omega)
      obtain ⟨x, rfl, _⟩ := of ht
      obtain ⟨_, hcl, hat⟩ := World.cells?_some hc
      obtain ⟨v0, hv0⟩ := at_ (f x) 0 (by rw [hf]; exact hK0)
      have := hat 0 (by omega)
      simpa [Addr.add] using World.cell?_spot (this.trans hv0)
    have each : ∀ i, i < len' → ∃ x : α, (spot = none ∧ ∀ (r : Nat) v, (f x)[r]? = some v → W.cell? ⟨b, off + i * K + r, none⟩ = some v) ∧ Q x := by
      intro i hlt
      obtain ⟨cs', hc, ht⟩ := hi i (by omega)
      obtain ⟨x, rfl, hQ⟩ := of ht
      obtain ⟨_, hcl, hat⟩ := World.cells?_some hc
      have hsp := hsp0 (by omega)
      subst hsp
      refine ⟨x, ⟨rfl, fun r v hv => ?_⟩, hQ⟩
      have hr := lt_of_at hv
      rw [hf] at hr
      have := hat r hr
      rw [add_of, add_of] at this
      exact this.trans hv
    obtain ⟨X, hX⟩ := choose_lt (α := α) (p := fun i x => (spot = none ∧ ∀ (r : Nat) v, (f x)[r]? = some v → W.cell? ⟨b, off + i * K + r, none⟩ = some v) ∧ Q x) each
    refine ⟨some ⟨b, off, spot⟩, cap', (List.range len').map X, by rw [hcs]; simp, fun h0 => ?_, by simp; omega, by simpa using hl, fun x hx => ?_⟩
    · have h0' : 0 < len' := by simpa using h0
      obtain ⟨⟨hsp, _⟩, _⟩ := hX 0 h0'
      subst hsp
      refine ⟨b, off, rfl, fun j q hj => ?_⟩
      obtain ⟨hj1, rfl⟩ := range_at _ _ hj
      exact (hX j hj1).1.2
    · obtain ⟨j, hj⟩ := List.getElem?_of_mem hx
      obtain ⟨hj1, rfl⟩ := range_at _ _ hj
      exact (hX j hj1).2
end
end Go.Proofs.Ytcnfonhcgcblgaa.Rk
