/- Restatements: derived values, payments, ints and bools as arguments. -/
import Derived.Test.YtohbdffmidbjhaaOpnRs
import Derived.Test.YtohbdffmidbjhaaReV
namespace Go.Proofs.Ytohbdffmidbjhaa.Re
open Go.ChangeShapes Go.WideShapes Go.ChangeAt Go.RowKit Go.Deep Go.Proofs.Ytohbdffmidbjhaa.Opened Go.Proofs.Ytohbdffmidbjhaa.Cell Go.Proofs.Ytohbdffmidbjhaa.Rk
set_option linter.unusedVariables false
set_option linter.unusedSimpArgs false
instance : Inhabited Py := ⟨⟨0, 0, 0, 0, 0, 0⟩⟩
theorem cellsPy : Try.prog.cellsOf 44 = 6 := by kernel_rfl
theorem cellsDv : Try.prog.cellsOf 38 = 2 := by kernel_rfl
theorem cellsBo : Try.prog.cellsOf 4 = 1 := by kernel_rfl
theorem cellsIn : Try.prog.cellsOf 3 = 1 := by kernel_rfl
theorem u8_in {x : Int} (h : (Lit.int .u8 x).wf = true) : 0 ≤ x ∧ x ≤ 255 := by
  simp [Lit.wf, IntKind.min, IntKind.max, IntKind.signed, IntKind.bits] at h
  omega
def i1 (x : Int) : List Value := [.int .i64 x]
theorem ints_i1 {w : World} {A : Option Addr} {l : List Int} (h : Rs i1 1 w A l) : Ints w A l := fun h0 => by
  obtain ⟨b, off, e, hc⟩ := h h0
  refine ⟨b, off, e, fun j x hx => ?_⟩
  have h1 := hc j x hx 0 _ rfl
  rwa [Nat.mul_one, Nat.add_zero] at h1
/-- where a value's lists lie -/
structure Dvr where
  d : Dv
  A1 : Option Addr
  c1 : Nat
  A2 : Option Addr
  c2 : Nat
instance : Inhabited Dvr := ⟨⟨⟨[], []⟩, none, 0, none, 0⟩⟩
def dvr (x : Dvr) : List Value := [.slice x.A1 x.d.fr.length x.c1, .slice x.A2 x.d.fa.length x.c2]
section
variable {H : Type} {enc : TypeId × Value → H} {W : World} {b0 : Nat} {r : Reach}
theorem iw_of {b : Nat} {sp : Nat → Bool} {hd : Bool} {fuel : Nat} {cs : List Value} {y : DataW H × List MemPlace} (h : DataW.trod enc Try.prog W b sp hd fuel 3 cs = some y) : ∃ x, cs = i1 x ∧ wfI x := by
  obtain ⟨x, e, _, hw⟩ := DataW.trod_int Try.underlying3 h
  exact ⟨x, e, hw⟩
theorem bo_of {b : Nat} {sp : Nat → Bool} {hd : Bool} {fuel : Nat} {cs : List Value} {y : DataW H × List MemPlace} (h : DataW.trod enc Try.prog W b sp hd fuel 4 cs = some y) : ∃ x, cs = b1 x := by
  obtain ⟨x, e, _⟩ := DataW.trod_bool Try.underlying4 h
  exact ⟨x, e⟩
theorem py_of {b : Nat} {sp : Nat → Bool} {hd : Bool} {fuel : Nat} {cs : List Value} {y : DataW H × List MemPlace} (h : DataW.trod enc Try.prog W b sp hd fuel 44 cs = some y) : ∃ x : Py, cs = py6 x ∧ wfI x.se := by
  obtain ⟨xs, n, _, _, hl, hxl, hf⟩ := DataW.trod_struct Try.underlying44 h
  rw [cellsPy] at hl
  match cs, hl with
  | [v0, v1, v2, v3, v4, v5], _ =>
    have hs : ∀ j, j < 6 → ∃ z, xs[j]? = some z := fun j hj => ⟨_, List.getElem?_eq_getElem (by rw [hxl]; exact hj)⟩
    obtain ⟨z0, g0⟩ := hs 0 (by omega)
    obtain ⟨z1, g1⟩ := hs 1 (by omega)
    obtain ⟨z2, g2⟩ := hs 2 (by omega)
    obtain ⟨z3, g3⟩ := hs 3 (by omega)
    obtain ⟨z4, g4⟩ := hs 4 (by omega)
    obtain ⟨z5, g5⟩ := hs 5 (by omega)
    obtain ⟨x0, e0, _⟩ := iw_of ((hf 0 _ rfl).trans g0)
    obtain ⟨x1, e1, q1⟩ := iw_of ((hf 1 _ rfl).trans g1)
    obtain ⟨x2, e2, _⟩ := iw_of ((hf 2 _ rfl).trans g2)
    obtain ⟨x3, e3, _⟩ := iw_of ((hf 3 _ rfl).trans g3)
    obtain ⟨x4, e4, _⟩ := iw_of ((hf 4 _ rfl).trans g4)
    obtain ⟨x5, e5, _⟩ := iw_of ((hf 5 _ rfl).trans g5)
    have f0 : v0 = .int .i64 x0 := by injection e0
    have f1 : v1 = .int .i64 x1 := by injection e1
    have f2 : v2 = .int .i64 x2 := by injection e2
    have f3 : v3 = .int .i64 x3 := by injection e3
    have f4 : v4 = .int .i64 x4 := by injection e4
    have f5 : v5 = .int .i64 x5 := by injection e5
    exact ⟨⟨x0, x1, x2, x3, x4, x5⟩, by rw [f0, f1, f2, f3, f4, f5]; rfl, q1⟩
theorem il_of {fuel : Nat} {cs : List Value} {y : DataW H × List MemPlace} (h : DataW.trod enc Try.prog W 0 (fun _ => true) true fuel 23 cs = some y) :
    ∃ (A : Option Addr) (cap : Nat) (l : List Int), cs = [.slice A l.length cap] ∧ Ints W A l ∧ l.length ≤ 9223372036854775807 ∧ ∀ x ∈ l, wfI x := by
  obtain ⟨A, cap, l, e, hr, hl, _, hq⟩ := rq_of (f := i1) wfI Try.underlying23 cellsIn (fun _ => rfl) iw_of (by omega) h
  exact ⟨A, cap, l, e, ints_i1 hr, hl, hq⟩
def DvQ (W : World) (x : Dvr) : Prop := Ints W x.A1 x.d.fr ∧ Ints W x.A2 x.d.fa ∧ x.d.fr.length ≤ 9223372036854775807 ∧ x.d.fa.length ≤ 9223372036854775807 ∧ ∀ z ∈ x.d.fa, wfI z
theorem dv_of {fuel : Nat} {cs : List Value} {y : DataW H × List MemPlace} (h : DataW.trod enc Try.prog W 0 (fun _ => true) true fuel 38 cs = some y) : ∃ x : Dvr, cs = dvr x ∧ DvQ W x := by
  obtain ⟨xs, n, _, _, hl, hxl, hf⟩ := DataW.trod_struct Try.underlying38 h
  rw [cellsDv] at hl
  match cs, hl with
  | [v0, v1], _ =>
    have hs : ∀ j, j < 2 → ∃ z, xs[j]? = some z := fun j hj => ⟨_, List.getElem?_eq_getElem (by rw [hxl]; exact hj)⟩
    obtain ⟨z0, g0⟩ := hs 0 (by omega)
    obtain ⟨z1, g1⟩ := hs 1 (by omega)
    obtain ⟨A1, c1, l1, e0, r1, m1, _⟩ := il_of ((hf 0 _ rfl).trans g0)
    obtain ⟨A2, c2, l2, e1, r2, m2, q2⟩ := il_of ((hf 1 _ rfl).trans g1)
    have f0 : v0 = .slice A1 l1.length c1 := by injection e0
    have f1 : v1 = .slice A2 l2.length c2 := by injection e1
    exact ⟨⟨⟨l1, l2⟩, A1, c1, A2, c2⟩, by rw [f0, f1]; rfl, r1, r2, m1, m2, q2⟩
theorem open_is {v : Value} {d : DataW H} {p : List MemPlace} (hv : Value.okWide Try.prog W r b0 23 v) (h : DataW.Trod enc Try.prog W 0 (fun _ => true) true 23 v d p) :
    ∃ (A : Option Addr) (cap : Nat) (l : List Int), v = .slice A l.length cap ∧ Ints W A l ∧ l.length ≤ 9223372036854775807 ∧ ∀ x ∈ l, wfI x := by
  obtain ⟨a0, len, cap, rfl⟩ := okWide_slice Try.underlying23 hv
  obtain ⟨fuel, hf⟩ := h
  obtain ⟨A, c, l, e, hi, hl, hq⟩ := il_of hf
  simp [Value.cells] at e
  obtain ⟨rfl, rfl, rfl⟩ := e
  exact ⟨_, _, l, rfl, hi, hl, hq⟩
theorem open_bos {v : Value} {d : DataW H} {p : List MemPlace} (hv : Value.okWide Try.prog W r b0 25 v) (h : DataW.Trod enc Try.prog W 0 (fun _ => true) true 25 v d p) :
    ∃ (A : Option Addr) (cap : Nat) (l : List Bool), v = .slice A l.length cap ∧ Bos W A l ∧ l.length ≤ 9223372036854775807 := by
  obtain ⟨a0, len, cap, rfl⟩ := okWide_slice Try.underlying25 hv
  obtain ⟨fuel, hf⟩ := h
  obtain ⟨A, c, l, e, hi, hl, _⟩ := rs_of (f := b1) Try.underlying25 cellsBo (fun _ => rfl) bo_of (by omega) hf
  simp [Value.cells] at e
  obtain ⟨rfl, rfl, rfl⟩ := e
  exact ⟨_, _, l, rfl, bos_rs hi, hl⟩
theorem open_pys {v : Value} {d : DataW H} {p : List MemPlace} (hv : Value.okWide Try.prog W r b0 24 v) (h : DataW.Trod enc Try.prog W 0 (fun _ => true) true 24 v d p) :
    ∃ (A : Option Addr) (cap : Nat) (l : List Py), v = .slice A l.length cap ∧ Pys W A l ∧ l.length ≤ 9223372036854775807 ∧ ∀ x ∈ l, wfI x.se := by
  obtain ⟨a0, len, cap, rfl⟩ := okWide_slice Try.underlying24 hv
  obtain ⟨fuel, hf⟩ := h
  obtain ⟨A, c, l, e, hi, hl, _, hq⟩ := rq_of (f := py6) (fun x => wfI x.se) Try.underlying24 cellsPy (fun _ => rfl) py_of (by omega) hf
  simp [Value.cells] at e
  obtain ⟨rfl, rfl, rfl⟩ := e
  exact ⟨_, _, l, rfl, pys_rs hi, hl, hq⟩
theorem open_dvs {v : Value} {d : DataW H} {p : List MemPlace} (hv : Value.okWide Try.prog W r b0 22 v) (h : DataW.Trod enc Try.prog W 0 (fun _ => true) true 22 v d p) :
    ∃ (A : Option Addr) (cap : Nat) (l : List Dv), v = .slice A l.length cap ∧ Dvs W A l ∧ l.length ≤ 9223372036854775807 ∧ (∀ d ∈ l, d.fr.length ≤ 9223372036854775807 ∧ d.fa.length ≤ 9223372036854775807) ∧ ∀ d ∈ l, ∀ x ∈ d.fa, wfI x := by
  obtain ⟨a0, len, cap, rfl⟩ := okWide_slice Try.underlying22 hv
  obtain ⟨fuel, hf⟩ := h
  obtain ⟨A, c, l, e, hi, hl, _, hq⟩ := rq_of (f := dvr) (DvQ W) Try.underlying22 cellsDv (fun _ => rfl) dv_of (by omega) hf
  simp [Value.cells] at e
  obtain ⟨rfl, rfl, rfl⟩ := e
  refine ⟨_, _, l.map (·.d), by rw [List.length_map], fun h0 => ?_, by rw [List.length_map]; exact hl, fun d hd => ?_, fun d hd => ?_⟩
  · rw [List.length_map] at h0
    obtain ⟨b, off, e, hc⟩ := hi h0
    refine ⟨b, off, e, fun j d hd => ?_⟩
    rw [List.getElem?_map] at hd
    cases hj : l[j]? with
    | none => rw [hj] at hd; cases hd
    | some x =>
      rw [hj] at hd
      obtain rfl : x.d = d := Option.some.inj hd
      have h1 := hc j x hj
      obtain ⟨q1, q2, _⟩ := hq x (mem_of_at hj)
      exact ⟨x.A1, x.c1, x.A2, x.c2, h1 0 _ rfl, h1 1 _ rfl, q1, q2⟩
  · obtain ⟨x, hx, rfl⟩ := List.mem_map.1 hd
    obtain ⟨_, _, q3, q4, _⟩ := hq x hx
    exact ⟨q3, q4⟩
  · obtain ⟨x, hx, rfl⟩ := List.mem_map.1 hd
    exact (hq x hx).2.2.2.2
end
end Go.Proofs.Ytohbdffmidbjhaa.Re
