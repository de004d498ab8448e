/- Facts: a fact, facts, a string as arguments. -/
import Derived.Test.YtcnfonhcgcblgaaOpnRs
import Derived.Test.YtcnfonhcgcblgaaFcH
namespace Go.Proofs.Ytcnfonhcgcblgaa.Fc
open Go.ChangeShapes Go.WideShapes Go.ChangeAt Go.RowKit Go.Deep Go.Proofs.Ytcnfonhcgcblgaa.Opened Go.Proofs.Ytcnfonhcgcblgaa.Cell Go.Proofs.Ytcnfonhcgcblgaa.Rk
set_option linter.unusedVariables false
set_option linter.unusedSimpArgs false
set_option maxRecDepth 100000
instance : Inhabited Fa := ⟨⟨0, [], 0, 0, 0⟩⟩
theorem cellsFc : Try.prog.cellsOf 24 = 5 := by kernel_rfl
theorem u8_in {x : Int} (h : (Lit.int .u8 x).wf = true) : 0 ≤ x ∧ x ≤ 255 := by
  simp [Lit.wf, IntKind.min, IntKind.max, IntKind.signed, IntKind.bits] at h
  omega
theorem str_l {s : ByteArray} (h : s.size ≤ maxLen) : s = ⟨s.data.toList.toArray⟩ ∧ s.data.toList.length ≤ 9223372036854775807 := by
  constructor
  · cases s; simp
  · have : s.data.toList.length = s.size := Array.length_toList
    rw [this]
    unfold maxLen at h
    omega
section
variable {H : Type} {enc : TypeId × Value → H} {W : World} {b0 : Nat} {r : Reach}
theorem fc_of {fuel : Nat} {cs : List Value} {y : DataW H × List MemPlace} (h : DataW.trod enc Try.prog W 0 (fun _ => true) true fuel 24 cs = some y) : ∃ x : Fa, cs = fcs x ∧ x.nm.length ≤ 9223372036854775807 := by
  obtain ⟨xs, n, _, _, hl, hxl, hf⟩ := DataW.trod_struct Try.underlying24 h
  rw [cellsFc] at hl
  match cs, hl with
  | [v0, v1, v2, v3, v4], _ =>
    have hs : ∀ j, j < 5 → ∃ z, xs[j]? = some z := fun j hj => ⟨_, List.getElem?_eq_getElem (by rw [hxl]; exact hj)⟩
    obtain ⟨z0, g0⟩ := hs 0 (by omega)
    obtain ⟨z1, g1⟩ := hs 1 (by omega)
    obtain ⟨z2, g2⟩ := hs 2 (by omega)
    obtain ⟨z3, g3⟩ := hs 3 (by omega)
    obtain ⟨z4, g4⟩ := hs 4 (by omega)
    obtain ⟨x0, e0, _⟩ := DataW.trod_int Try.underlying3 ((hf 0 _ rfl).trans g0)
    obtain ⟨x1, e1, _, q1⟩ := DataW.trod_string Try.underlying9 ((hf 1 _ rfl).trans g1)
    obtain ⟨x2, e2, _⟩ := DataW.trod_int Try.underlying3 ((hf 2 _ rfl).trans g2)
    obtain ⟨x3, e3, _⟩ := DataW.trod_int Try.underlying3 ((hf 3 _ rfl).trans g3)
    obtain ⟨x4, e4, _⟩ := DataW.trod_int Try.underlying3 ((hf 4 _ rfl).trans g4)
    have f0 : v0 = .int .i64 x0 := by injection e0
    have f1 : v1 = .string x1 := by injection e1
    have f2 : v2 = .int .i64 x2 := by injection e2
    have f3 : v3 = .int .i64 x3 := by injection e3
    have f4 : v4 = .int .i64 x4 := by injection e4
    exact ⟨⟨x0, x1.data.toList, x2, x3, x4⟩, by rw [f0, f1, f2, f3, f4, (str_l q1).1]; rfl, (str_l q1).2⟩
theorem open_fcs {v : Value} {d : DataW H} {p : List MemPlace} (hv : Value.okWide Try.prog W r b0 22 v) (h : DataW.Trod enc Try.prog W 0 (fun _ => true) true 22 v d p) :
    ∃ (A : Option Addr) (cap : Nat) (l : List Fa), v = .slice A l.length cap ∧ Rs fcs 5 W A l ∧ l.length ≤ 9223372036854775807 ∧ ∀ x ∈ l, x.nm.length ≤ 9223372036854775807 := by
  obtain ⟨a0, len, cap, rfl⟩ := okWide_slice Try.underlying22 hv
  obtain ⟨fuel, hf⟩ := h
  obtain ⟨A, c, l, e, hi, hl, _, hq⟩ := rq_of (f := fcs) (fun x => x.nm.length ≤ 9223372036854775807) Try.underlying22 cellsFc (fun _ => rfl) fc_of (by omega) hf
  simp [Value.cells] at e
  obtain ⟨rfl, rfl, rfl⟩ := e
  exact ⟨_, _, l, rfl, hi, hl, hq⟩
theorem open_fc {v : Value} {d : DataW H} {p : List MemPlace} (hv : Value.okWide Try.prog W r b0 24 v) (h : DataW.Trod enc Try.prog W 0 (fun _ => true) true 24 v d p) :
    ∃ f : Fa, v = .agg #[.int .i64 f.is, .string ⟨f.nm.toArray⟩, .int .i64 f.pe, .int .i64 f.va, .int .i64 f.dy] ∧ f.nm.length ≤ 9223372036854775807 := by
  obtain ⟨cs, rfl, hsz⟩ := okWide_struct Try.underlying24 hv
  obtain ⟨fuel, hf⟩ := h
  have hf2 : DataW.trod enc Try.prog W 0 (fun _ => true) true fuel 24 cs.toList = some (d, p) := by simpa [Value.cells] using hf
  obtain ⟨x, e, hq⟩ := fc_of hf2
  refine ⟨x, ?_, hq⟩
  have : cs = (fcs x).toArray := by rw [← e]
  rw [this]
  rfl
theorem open_str {v : Value} {d : DataW H} {p : List MemPlace} (hv : Value.okWide Try.prog W r b0 9 v) (h : DataW.Trod enc Try.prog W 0 (fun _ => true) true 9 v d p) :
    ∃ l : List UInt8, v = .string ⟨l.toArray⟩ ∧ l.length ≤ 9223372036854775807 := by
  obtain ⟨s, rfl⟩ := okWide_string Try.underlying9 hv
  obtain ⟨fuel, hf⟩ := h
  have hf2 : DataW.trod enc Try.prog W 0 (fun _ => true) true fuel 9 [.string s] = some (d, p) := by simpa [Value.cells] using hf
  obtain ⟨x, e, _, q⟩ := DataW.trod_string Try.underlying9 hf2
  have : s = x := by injection e with e; injection e
  subst this
  exact ⟨s.data.toList, by rw [← (str_l q).1], (str_l q).2⟩
end
end Go.Proofs.Ytcnfonhcgcblgaa.Fc
