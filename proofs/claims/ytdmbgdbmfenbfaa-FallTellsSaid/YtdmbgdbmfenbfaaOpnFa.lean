/- Fall: a deal as an argument. -/
import Derived.Test.YtdmbgdbmfenbfaaLFaK
import Derived.Test.YtdmbgdbmfenbfaaOpn
import Derived.Deep.Grids
import Derived.Lib.SmallJoins
namespace Go.Proofs.Ytdmbgdbmfenbfaa.Fa
open Go.ChangeShapes Go.WideShapes Go.ChangeAt Go.RowKit Go.Deep Go.Proofs.Ytdmbgdbmfenbfaa.Opened Go.Proofs.Ytdmbgdbmfenbfaa.Cell
set_option linter.unusedVariables false
set_option linter.unusedSimpArgs false
instance : Inhabited Tr := ⟨⟨0, 0⟩⟩
instance : Inhabited Te := ⟨⟨0, 0⟩⟩
instance : Inhabited St := ⟨⟨0, 0, 0⟩⟩
theorem cellsTr : Try.prog.cellsOf 39 = 2 := by kernel_rfl
theorem cellsTe : Try.prog.cellsOf 50 = 2 := by kernel_rfl
theorem cellsSt : Try.prog.cellsOf 42 = 3 := by kernel_rfl
theorem cellsDeal : Try.prog.cellsOf 26 = 7 := by kernel_rfl
theorem range_at {α : Type} (n : Nat) (f : Nat → α) {j : Nat} {x : α} (h : ((List.range n).map f)[j]? = some x) : j < n ∧ x = f j := by
  rw [List.getElem?_map] at h
  obtain ⟨hj, e⟩ : j < n ∧ some (f j) = some x := by
    by_cases hj : j < n
    · rw [List.getElem?_range hj] at h; exact ⟨hj, h⟩
    · rw [List.getElem?_eq_none (by simp; omega)] at h; simp at h
  exact ⟨hj, (Option.some.inj e).symm⟩
section
variable {H : Type} {enc : TypeId × Value → H} {W : World} {b0 : Nat} {r : Reach}
theorem int_of {b : Nat} {sp : Nat → Bool} {hd : Bool} {fuel : Nat} {cs : List Value} {y : Option (DataW H × List MemPlace)} (h : DataW.trod enc Try.prog W b sp hd fuel 3 cs = y) (hy : y.isSome = true) : ∃ x, cs = [.int .i64 x] := by
  obtain ⟨z, rfl⟩ := Option.isSome_iff_exists.1 hy
  obtain ⟨x, e, _, _⟩ := DataW.trod_int Try.underlying3 h
  exact ⟨x, e⟩
theorem tr_of {b : Nat} {sp : Nat → Bool} {hd : Bool} {fuel : Nat} {cs : List Value} {y : DataW H × List MemPlace} (h : DataW.trod enc Try.prog W b sp hd fuel 39 cs = some y) : ∃ x : Tr, cs = tcs x := by
  obtain ⟨xs, n, _, _, hl, hxl, hf⟩ := DataW.trod_struct Try.underlying39 h
  rw [cellsTr] at hl
  match cs, hl with
  | [v0, v1], _ =>
    have hs : ∀ j, j < 2 → (xs[j]?).isSome = true := fun j hj => by rw [List.getElem?_eq_getElem (by rw [hxl]; exact hj)]; rfl
    obtain ⟨x0, e0⟩ := int_of (hf 0 _ rfl) (hs 0 (by omega))
    obtain ⟨x1, e1⟩ := int_of (hf 1 _ rfl) (hs 1 (by omega))
    have f0 : v0 = .int .i64 x0 := by injection e0
    have f1 : v1 = .int .i64 x1 := by injection e1
    exact ⟨⟨x0, x1⟩, by rw [f0, f1]; rfl⟩
theorem te_of {b : Nat} {sp : Nat → Bool} {hd : Bool} {fuel : Nat} {cs : List Value} {y : DataW H × List MemPlace} (h : DataW.trod enc Try.prog W b sp hd fuel 50 cs = some y) : ∃ x : Te, cs = qcs x := by
  obtain ⟨xs, n, _, _, hl, hxl, hf⟩ := DataW.trod_struct Try.underlying50 h
  rw [cellsTe] at hl
  match cs, hl with
  | [v0, v1], _ =>
    have hs : ∀ j, j < 2 → (xs[j]?).isSome = true := fun j hj => by rw [List.getElem?_eq_getElem (by rw [hxl]; exact hj)]; rfl
    obtain ⟨x0, e0⟩ := int_of (hf 0 _ rfl) (hs 0 (by omega))
    obtain ⟨x1, e1⟩ := int_of (hf 1 _ rfl) (hs 1 (by omega))
    have f0 : v0 = .int .i64 x0 := by injection e0
    have f1 : v1 = .int .i64 x1 := by injection e1
    exact ⟨⟨x0, x1⟩, by rw [f0, f1]; rfl⟩
theorem st_of {b : Nat} {sp : Nat → Bool} {hd : Bool} {fuel : Nat} {cs : List Value} {y : DataW H × List MemPlace} (h : DataW.trod enc Try.prog W b sp hd fuel 42 cs = some y) : ∃ x : St, cs = scs x := by
  obtain ⟨xs, n, _, _, hl, hxl, hf⟩ := DataW.trod_struct Try.underlying42 h
  rw [cellsSt] at hl
  match cs, hl with
  | [v0, v1, v2], _ =>
    have hs : ∀ j, j < 3 → (xs[j]?).isSome = true := fun j hj => by rw [List.getElem?_eq_getElem (by rw [hxl]; exact hj)]; rfl
    obtain ⟨x0, e0⟩ := int_of (hf 0 _ rfl) (hs 0 (by omega))
    obtain ⟨x1, e1⟩ := int_of (hf 1 _ rfl) (hs 1 (by omega))
    obtain ⟨x2, e2⟩ := int_of (hf 2 _ rfl) (hs 2 (by omega))
    have f0 : v0 = .int .i64 x0 := by injection e0
    have f1 : v1 = .int .i64 x1 := by injection e1
    have f2 : v2 = .int .i64 x2 := by injection e2
    exact ⟨⟨x0, x1, x2⟩, by rw [f0, f1, f2]; rfl⟩
/-- a slice of records: where it lies, and what is in it -/
theorem rs_of {α : Type} [Inhabited α] {f : α → List Value} {K : Nat} {tS tE : TypeId} (hS : Try.prog.underlying tS = some (.slice tE)) (hK : Try.prog.cellsOf tE = K) (hf : ∀ x, (f x).length = K)
    (of : ∀ {b : Nat} {sp : Nat → Bool} {hd : Bool} {fuel : Nat} {cs : List Value} {y : DataW H × List MemPlace}, DataW.trod enc Try.prog W b sp hd fuel tE cs = some y → ∃ x : α, cs = f x) (hK0 : 0 < K)
    {fuel : Nat} {cs : List Value} {y : DataW H × List MemPlace} (h : DataW.trod enc Try.prog W 0 (fun _ => true) true fuel tS cs = some y) :
    ∃ (A : Option Addr) (cap : Nat) (l : List α), cs = [.slice A l.length cap] ∧ Rs f K W A l ∧ l.length ≤ 9223372036854775807 ∧ l.length ≤ cap := by
  rcases open_slice hS h with ⟨hcs, hx⟩ | ⟨a, len', cap', m, n, D, Pl, hcs, _, hl, hm, hmm, hx, hi⟩
  · exact ⟨none, 0, [], by rw [hcs]; rfl, Rs.nil _ _, by simp, by simp⟩
  · unfold maxLen at hm
    rw [hK] at hi
    obtain ⟨b, off, spot⟩ := a
    simp only [if_true] at hmm
    have hsp0 : 0 < len' → spot = none := fun h0 => by
      obtain ⟨cs', hc, ht⟩ := hi 0 (by omega)
      obtain ⟨x, rfl⟩ := of ht
      obtain ⟨_, hcl, hat⟩ := World.cells?_some hc
      obtain ⟨v0, hv0⟩ := at_ (f x) 0 (by rw [hf]; exact hK0)
      have := hat 0 (by omega)
      simpa [Addr.add] using World.cell?_spot (this.trans hv0)
    have each : ∀ i, i < len' → ∃ x : α, spot = none ∧ ∀ (r : Nat) v, (f x)[r]? = some v → W.cell? ⟨b, off + i * K + r, none⟩ = some v := by
      intro i hlt
      obtain ⟨cs', hc, ht⟩ := hi i (by omega)
      obtain ⟨x, rfl⟩ := of ht
      obtain ⟨_, hcl, hat⟩ := World.cells?_some hc
      have hsp := hsp0 (by omega)
      subst hsp
      refine ⟨x, rfl, fun r v hv => ?_⟩
      have hr := lt_of_at hv
      rw [hf] at hr
      have := hat r hr
      rw [add_of, add_of] at this
      exact this.trans hv
    obtain ⟨X, hX⟩ := choose_lt (α := α) (p := fun i x => spot = none ∧ ∀ (r : Nat) v, (f x)[r]? = some v → W.cell? ⟨b, off + i * K + r, none⟩ = some v) each
    refine ⟨some ⟨b, off, spot⟩, cap', (List.range len').map X, by rw [hcs]; simp, fun h0 => ?_, by simp; omega, by simpa using hl⟩
    have h0' : 0 < len' := by simpa using h0
    obtain ⟨hsp, _⟩ := hX 0 h0'
    subst hsp
    refine ⟨b, off, rfl, fun j q hj => ?_⟩
    obtain ⟨hj1, rfl⟩ := range_at _ _ hj
    exact (hX j hj1).2
theorem open_deal {v : Value} {d : DataW H} {p : List MemPlace} (hv : Value.okWide Try.prog W r b0 26 v) (h : DataW.Trod enc Try.prog W 0 (fun _ => true) true 26 v d p) :
    ∃ (D : Dl) (P : Pl), v = dval D P ∧ Dm W D P ∧ D.tr.length ≤ P.c1 ∧ D.tr.length ≤ 9223372036854775807 ∧ D.te.length ≤ 9223372036854775807 ∧ D.st.length ≤ 9223372036854775807 := by
  obtain ⟨cs, rfl, hsz⟩ := okWide_struct Try.underlying26 hv
  rw [cellsDeal] at hsz
  obtain ⟨fuel, hf⟩ := h
  obtain ⟨xs, n, _, _, hl, hxl, hF⟩ := DataW.trod_struct Try.underlying26 hf
  have hxl' : xs.length = 7 := hxl
  have hcs : (Value.agg cs).cells = cs := rfl
  rw [hcs] at hF
  obtain ⟨cl⟩ := cs
  match cl, hsz with
  | [v0, v1, v2, v3, v4, v5, v6], _ =>
    have hs : ∀ j, j < 7 → (xs[j]?).isSome = true := fun j hj => by rw [List.getElem?_eq_getElem (by rw [hxl']; exact hj)]; rfl
    obtain ⟨x0, e0⟩ := int_of (hF 0 _ rfl) (hs 0 (by omega))
    obtain ⟨x1, e1⟩ := int_of (hF 1 _ rfl) (hs 1 (by omega))
    obtain ⟨x2, e2⟩ := int_of (hF 2 _ rfl) (hs 2 (by omega))
    obtain ⟨x3, e3⟩ := int_of (hF 3 _ rfl) (hs 3 (by omega))
    obtain ⟨z4, hz4⟩ := Option.isSome_iff_exists.1 (hs 4 (by omega))
    obtain ⟨z5, hz5⟩ := Option.isSome_iff_exists.1 (hs 5 (by omega))
    obtain ⟨z6, hz6⟩ := Option.isSome_iff_exists.1 (hs 6 (by omega))
    obtain ⟨A1, c1, tr, e4, r4, l4, q4⟩ := rs_of (f := tcs) Try.underlying22 cellsTr (fun _ => rfl) tr_of (by omega) ((hF 4 _ rfl).trans hz4)
    obtain ⟨A2, c2, te, e5, r5, l5, q5⟩ := rs_of (f := qcs) Try.underlying23 cellsTe (fun _ => rfl) te_of (by omega) ((hF 5 _ rfl).trans hz5)
    obtain ⟨A3, c3, st, e6, r6, l6, q6⟩ := rs_of (f := scs) Try.underlying24 cellsSt (fun _ => rfl) st_of (by omega) ((hF 6 _ rfl).trans hz6)
    have f0 : v0 = .int .i64 x0 := by injection e0
    have f1 : v1 = .int .i64 x1 := by injection e1
    have f2 : v2 = .int .i64 x2 := by injection e2
    have f3 : v3 = .int .i64 x3 := by injection e3
    have f4 : v4 = .slice A1 tr.length c1 := by injection e4
    have f5 : v5 = .slice A2 te.length c2 := by injection e5
    have f6 : v6 = .slice A3 st.length c3 := by injection e6
    exact ⟨⟨x0, x1, x2, x3, tr, te, st⟩, ⟨A1, c1, A2, c2, A3, c3⟩, by rw [f0, f1, f2, f3, f4, f5, f6]; rfl, ⟨r4, r5, r6⟩, q4, l4, l5, l6⟩
end
end Go.Proofs.Ytdmbgdbmfenbfaa.Fa
