/- Lists of values of wire, opened. -/
import Derived.Test.YtapcfnlononniaaDoorOpn
import Derived.Test.YtapcfnlononniaaDoorLWrB
import Derived.Deep.Grids
import Derived.Lib.SmallJoins
import Derived.SliceStrings
import Derived.ChangeSlices
namespace Go.Proofs.YtapcfnlononniaaDoor.Wr
open Go.ChangeShapes Go.WideShapes Go.ChangeAt Go.RowKit Go.Deep Go.Proofs.YtapcfnlononniaaDoor.Opened Go.Proofs.YtapcfnlononniaaDoor.Cell
set_option linter.unusedVariables false
theorem cellsI : Tryd.prog.cellsOf 3 = 1 := by kernel_rfl
theorem cellsT : Tryd.prog.cellsOf 9 = 1 := by kernel_rfl
theorem cellsV : Tryd.prog.cellsOf 25 = 5 := by kernel_rfl
theorem i64_of {a : Int} (h : (Lit.int .i64 a).wf = true) : I64 a := by
  simp [Lit.wf, IntKind.min, IntKind.max, IntKind.signed, IntKind.bits] at h
  unfold I64
  omega
theorem str_list (s : ByteArray) : Value.string s = .string ⟨s.data.toList.toArray⟩ := by
  cases s
  simp
theorem range_at {α : Type} (n : Nat) (f : Nat → α) {j : Nat} {x : α} (h : ((List.range n).map f)[j]? = some x) : j < n ∧ x = f j := by
  rw [List.getElem?_map] at h
  obtain ⟨hj, e⟩ : j < n ∧ some (f j) = some x := by
    by_cases hj : j < n
    · rw [List.getElem?_range hj] at h; exact ⟨hj, h⟩
    · rw [List.getElem?_eq_none (by simp; omega)] at h; simp at h
  exact ⟨hj, (Option.some.inj e).symm⟩
instance : Inhabited Vl := ⟨⟨0, 0, [], [], []⟩⟩
section
variable {H : Type} {enc : TypeId × Value → H} {W : World} {b0 : Nat} {r : Reach}
theorem ints_of {fuel : Nat} {v : Value} {y : DataW H × List MemPlace} (hf : DataW.trod enc Tryd.prog W 0 (fun _ => true) true fuel 22 [v] = some y) :
    ∃ (A : Option Addr) (cap : Nat) (zs : List Int), v = .slice A zs.length cap ∧ Ints W A zs ∧ ∀ z ∈ zs, I64 z := by
  rcases open_ints Tryd.underlying22 Tryd.underlying3 cellsI hf with ⟨hcs, hx⟩ | ⟨a, len, cap, zs, hcs, _, hl, hm, hz, hx, hcell, hwf⟩
  · simp at hcs
    subst hcs
    exact ⟨none, 0, [], rfl, fun h => absurd h (by simp), by simp⟩
  · simp at hcs
    subst hcs
    simp only [if_true] at hz
    have hlen : (zs.take len).length = len := by rw [List.length_take, hz, Nat.min_eq_left hl]
    refine ⟨some a, cap, zs.take len, by rw [hlen], fun h0 => ?_, fun z h => i64_of (hwf z (List.mem_of_mem_take h))⟩
    rw [hlen] at h0
    obtain ⟨b, off, spot⟩ := a
    have hspot : spot = none := by simpa [Addr.add] using World.cell?_spot (hcell 0 (by omega))
    subst hspot
    refine ⟨b, off, rfl, fun j z hj => ?_⟩
    have hj1 : j < len := by have := lt_of_at hj; omega
    rw [List.getElem?_take_of_lt hj1] at hj
    have := hcell j (by omega)
    rw [add_of] at this
    rw [this, List.getD_eq_getElem?_getD, hj]
    rfl
theorem sts_of {fuel : Nat} {v : Value} {y : DataW H × List MemPlace} (hf : DataW.trod enc Tryd.prog W 0 (fun _ => true) true fuel 23 [v] = some y) :
    ∃ (A : Option Addr) (cap : Nat) (zs : List (List UInt8)), v = .slice A zs.length cap ∧ Sts W A zs := by
  rcases open_strings Tryd.underlying23 Tryd.underlying9 cellsT hf with ⟨hcs, hx⟩ | ⟨a, len, cap, ss, hcs, _, hl, hm, hz, hx, hcell, hwf⟩
  · simp at hcs
    subst hcs
    exact ⟨none, 0, [], rfl, fun h => absurd h (by simp)⟩
  · simp at hcs
    subst hcs
    simp only [if_true] at hz
    have hlen : ((ss.take len).map fun s => s.data.toList).length = len := by rw [List.length_map, List.length_take, hz, Nat.min_eq_left hl]
    refine ⟨some a, cap, (ss.take len).map fun s => s.data.toList, by rw [hlen], fun h0 => ?_⟩
    rw [hlen] at h0
    obtain ⟨b, off, spot⟩ := a
    have hspot : spot = none := by simpa [Addr.add] using World.cell?_spot (hcell 0 (by omega))
    subst hspot
    refine ⟨b, off, rfl, fun j z hj => ?_⟩
    have hj1 : j < len := by have := lt_of_at hj; omega
    rw [List.getElem?_map, List.getElem?_take_of_lt hj1] at hj
    cases hs : ss[j]? with
    | none => rw [hs] at hj; cases hj
    | some s =>
      rw [hs] at hj
      have e : s.data.toList = z := by injection hj
      have := hcell j (by omega)
      rw [add_of] at this
      rw [this, List.getD_eq_getElem?_getD, hs, ← e]
      exact congrArg some (str_list s)
set_option maxRecDepth 100000 in
theorem open_vll {v : Value} {d : DataW H} {p : List MemPlace} (hv : Value.okWide Tryd.prog W r b0 28 v) (h : DataW.Trod enc Tryd.prog W 0 (fun _ => true) true 28 v d p) :
    ∃ (A : Option Addr) (cap : Nat) (l : List Vl), v = .slice A l.length cap ∧ Vll W A l ∧ (∀ x ∈ l, Wv x) ∧ l.length ≤ 9223372036854775807 := by
  obtain ⟨a0, len, cap, rfl⟩ := okWide_slice Tryd.underlying28 hv
  obtain ⟨fuel, hf⟩ := h
  rcases open_slice_fields Tryd.underlying28 Tryd.underlying25 (by kernel_rfl) cellsV hf with ⟨hcs, hx⟩ | ⟨a, len', cap', m, D, Pl, hcs, _, hl, hm, hmm, hx, hi⟩
  · simp [Value.cells] at hcs
    obtain ⟨rfl, rfl, rfl⟩ := hcs
    exact ⟨none, 0, [], rfl, fun h => absurd h (by simp), by simp, by simp⟩
  · simp [Value.cells] at hcs
    obtain ⟨rfl, rfl, rfl⟩ := hcs
    simp only [if_true] at hmm
    unfold maxLen at hm
    obtain ⟨b, off, spot⟩ := a
    have hsp : 0 < len → spot = none := fun h0 => by
      obtain ⟨ys, n, _, _, _, hg⟩ := hi 0 (by omega)
      obtain ⟨v0, y0, c0, _, t0⟩ := hg 0 _ rfl
      simpa [Addr.add] using World.cell?_spot c0
    have each : ∀ i, i < len → ∃ x : Vl, (spot = none → VAt W b (off + i * 5) x) ∧ Wv x := by
      intro i hlt
      obtain ⟨ys, n, _, _, _, hg⟩ := hi i (by omega)
      obtain ⟨v0, y0, c0, _, t0⟩ := hg 0 _ rfl
      obtain ⟨v1, y1, c1, _, t1⟩ := hg 1 _ rfl
      obtain ⟨v2, y2, c2, _, t2⟩ := hg 2 _ rfl
      obtain ⟨v3, y3, c3, _, t3⟩ := hg 3 _ rfl
      obtain ⟨v4, y4, c4, _, t4⟩ := hg 4 _ rfl
      obtain ⟨x0, e0, _, w0⟩ := DataW.trod_int Tryd.underlying3 t0
      obtain ⟨x1, e1, _, w1⟩ := DataW.trod_int Tryd.underlying3 t1
      obtain ⟨x2, e2, _, _⟩ := DataW.trod_string Tryd.underlying9 t2
      obtain ⟨A3, q3, z3, e3, hb3, hl3⟩ := ints_of t3
      obtain ⟨A4, q4, z4, e4, hb4⟩ := sts_of t4
      simp at e0 e1 e2
      subst e0 e1 e2 e3 e4
      refine ⟨⟨x0, x1, x2.data.toList, z3, z4⟩, fun hs => ?_, i64_of w0, i64_of w1, hl3⟩
      subst hs
      simp only [add_of] at c0 c1 c2 c3 c4
      exact ⟨c0, c1, by rw [← str_list]; exact c2, ⟨A3, q3, c3, hb3⟩, ⟨A4, q4, c4, hb4⟩⟩
    obtain ⟨X, hX⟩ := choose_lt (α := Vl) (p := fun i x => (spot = none → VAt W b (off + i * 5) x) ∧ Wv x) each
    refine ⟨some ⟨b, off, spot⟩, cap, (List.range len).map X, by simp, fun h0 => ?_, fun x hx => ?_, by simp; omega⟩
    · have h0' : 0 < len := by simpa using h0
      have hspot := hsp h0'
      subst hspot
      refine ⟨b, off, rfl, fun j q hj => ?_⟩
      obtain ⟨hj1, rfl⟩ := range_at _ _ hj
      exact (hX j hj1).1 rfl
    · obtain ⟨i, hi1, rfl⟩ := List.mem_map.1 hx
      exact (hX i (List.mem_range.1 hi1)).2
end
theorem back_law (w : World) {A : Option Addr} {m cap : Nat} {l : List Vl} (s : ByteArray) (hm : l.length = m) (hc : Vll w A l) (hwf : ∀ v ∈ l, Wv v) (hbig : m ≤ 9223372036854775807) (hs : s.size ≤ maxLen) (hE : En w w) :
    Calls Tryd.prog 5 #[.slice A m cap, .string s] w fun e w' => e = .returned (.bool true) ∧ Below w.heap.size w w' := by
  rw [str_list s]
  exact back_any w hm hc hwf hbig (by have h : s.data.toList.length ≤ maxLen := hs; unfold maxLen at h; omega) hE
end Go.Proofs.YtapcfnlononniaaDoor.Wr
