/- Post: the law's list of things that happen, in memory. -/
import Derived.Test.YtefikmfogbdhpaaPoJ
import Derived.Test.YtefikmfogbdhpaaOpn
import Derived.Deep.Grids
import Derived.Lib.SmallJoins
namespace Go.Proofs.Ytefikmfogbdhpaa.Po
open Go.ChangeShapes Go.WideShapes Go.ChangeAt Go.RowKit Go.Deep Go.Proofs.Ytefikmfogbdhpaa.Opened Go.Proofs.Ytefikmfogbdhpaa.Cell
set_option linter.unusedVariables false
set_option linter.unusedSimpArgs false
/-- something that happens -/
structure Ac where
  kd : Int
  nu : Int
  en : En
instance : Inhabited Ac := ⟨⟨0, 0, default⟩⟩
structure AcAt (w : World) (b p : Nat) (a : Ac) : Prop where
  c0 : w.cell? ⟨b, p, none⟩ = some (.int .i64 a.kd)
  c1 : w.cell? ⟨b, p + 1, none⟩ = some (.int .i64 a.nu)
  c2 : w.cell? ⟨b, p + 2, none⟩ = some (.int .i64 a.en.id)
  c3 : w.cell? ⟨b, p + 3, none⟩ = some (.int .i64 a.en.dy)
  c4 : w.cell? ⟨b, p + 4, none⟩ = some (.int .i64 a.en.fr)
  c5 : w.cell? ⟨b, p + 5, none⟩ = some (.int .i64 a.en.tt)
  c6 : w.cell? ⟨b, p + 6, none⟩ = some (.int .i64 a.en.am)
def Acl (w : World) (A : Option Addr) (l : List Ac) : Prop := 0 < l.length → ∃ b off, A = some ⟨b, off, none⟩ ∧ ∀ (j : Nat) x, l[j]? = some x → AcAt w b (off + j * 7) x
theorem Acl.keep {w w1 : World} {A : Option Addr} {l : List Ac} (h : Acl w A l) (hb : Below w.heap.size w w1) : Acl w1 A l := fun h0 => by
  obtain ⟨b, off, e, hc⟩ := h h0
  refine ⟨b, off, e, fun j x hx => ?_⟩
  have c := hc j x hx
  exact ⟨Gen.keep hb c.c0, Gen.keep hb c.c1, Gen.keep hb c.c2, Gen.keep hb c.c3, Gen.keep hb c.c4, Gen.keep hb c.c5, Gen.keep hb c.c6⟩
theorem cellsAc : Try.prog.cellsOf 42 = 7 := by kernel_rfl
theorem cellsEn : Try.prog.cellsOf 36 = 5 := by kernel_rfl
theorem range_at {α : Type} (n : Nat) (f : Nat → α) {j : Nat} {x : α} (h : ((List.range n).map f)[j]? = some x) : j < n ∧ x = f j := by
  rw [List.getElem?_map] at h
  obtain ⟨hj, e⟩ : j < n ∧ some (f j) = some x := by
    by_cases hj : j < n
    · rw [List.getElem?_range hj] at h; exact ⟨hj, h⟩
    · rw [List.getElem?_eq_none (by simp; omega)] at h; simp at h
  exact ⟨hj, (Option.some.inj e).symm⟩
theorem u8_in {a : Int} (h : (Lit.int .u8 a).wf = true) : 0 ≤ a ∧ a ≤ 255 := by
  simp [Lit.wf, IntKind.min, IntKind.max, IntKind.signed, IntKind.bits] at h
  omega
section
variable {H : Type} {enc : TypeId × Value → H} {W : World} {b0 : Nat} {r : Reach}
theorem int_of {b : Nat} {sp : Nat → Bool} {hd : Bool} {fuel : Nat} {cs : List Value} {y : Option (DataW H × List MemPlace)} (h : DataW.trod enc Try.prog W b sp hd fuel 3 cs = y) (hy : y.isSome = true) : ∃ x, cs = [.int .i64 x] := by
  obtain ⟨z, rfl⟩ := Option.isSome_iff_exists.1 hy
  obtain ⟨x, e, _, _⟩ := DataW.trod_int Try.underlying3 h
  exact ⟨x, e⟩
theorem en_of {b : Nat} {sp : Nat → Bool} {hd : Bool} {fuel : Nat} {cs : List Value} {y : DataW H × List MemPlace} (h : DataW.trod enc Try.prog W b sp hd fuel 36 cs = some y) : ∃ x : En, cs = ecs x := by
  obtain ⟨xs, n, _, _, hl, hxl, hf⟩ := DataW.trod_struct Try.underlying36 h
  rw [cellsEn] at hl
  match cs, hl with
  | [v0, v1, v2, v3, v4], _ =>
    have hs : ∀ j, j < 5 → (xs[j]?).isSome = true := fun j hj => by rw [List.getElem?_eq_getElem (by rw [hxl]; exact hj)]; rfl
    obtain ⟨x0, e0⟩ := int_of (hf 0 _ rfl) (hs 0 (by omega))
    obtain ⟨x1, e1⟩ := int_of (hf 1 _ rfl) (hs 1 (by omega))
    obtain ⟨x2, e2⟩ := int_of (hf 2 _ rfl) (hs 2 (by omega))
    obtain ⟨x3, e3⟩ := int_of (hf 3 _ rfl) (hs 3 (by omega))
    obtain ⟨x4, e4⟩ := int_of (hf 4 _ rfl) (hs 4 (by omega))
    have f0 : v0 = .int .i64 x0 := by injection e0
    have f1 : v1 = .int .i64 x1 := by injection e1
    have f2 : v2 = .int .i64 x2 := by injection e2
    have f3 : v3 = .int .i64 x3 := by injection e3
    have f4 : v4 = .int .i64 x4 := by injection e4
    exact ⟨⟨x0, x1, x2, x3, x4⟩, by rw [f0, f1, f2, f3, f4]; rfl⟩
theorem ac_of {b : Nat} {sp : Nat → Bool} {hd : Bool} {fuel : Nat} {cs : List Value} {y : DataW H × List MemPlace} (h : DataW.trod enc Try.prog W b sp hd fuel 42 cs = some y) : ∃ x : Ac, cs = .int .i64 x.kd :: .int .i64 x.nu :: ecs x.en := by
  obtain ⟨xs, n, _, _, hl, hxl, hf⟩ := DataW.trod_struct Try.underlying42 h
  rw [cellsAc] at hl
  match cs, hl with
  | [v0, v1, v2, v3, v4, v5, v6], _ =>
    have hs : ∀ j, j < 3 → (xs[j]?).isSome = true := fun j hj => by rw [List.getElem?_eq_getElem (by rw [hxl]; exact hj)]; rfl
    obtain ⟨x0, e0⟩ := int_of (hf 0 _ rfl) (hs 0 (by omega))
    obtain ⟨x1, e1⟩ := int_of (hf 1 _ rfl) (hs 1 (by omega))
    obtain ⟨z, hz⟩ := Option.isSome_iff_exists.1 (hs 2 (by omega))
    obtain ⟨x2, e2⟩ := en_of ((hf 2 _ rfl).trans hz)
    have f0 : v0 = .int .i64 x0 := by injection e0
    have f1 : v1 = .int .i64 x1 := by injection e1
    have f2 : [v2, v3, v4, v5, v6] = ecs x2 := e2
    exact ⟨⟨x0, x1, x2⟩, by rw [f0, f1, f2]⟩
theorem open_acl {v : Value} {d : DataW H} {p : List MemPlace} (hv : Value.okWide Try.prog W r b0 24 v) (h : DataW.Trod enc Try.prog W 0 (fun _ => true) true 24 v d p) :
    ∃ (A : Option Addr) (cap : Nat) (l : List Ac), v = .slice A l.length cap ∧ Acl W A l ∧ l.length ≤ 9223372036854775807 := by
  obtain ⟨a0, len, cap, rfl⟩ := okWide_slice Try.underlying24 hv
  obtain ⟨fuel, hf⟩ := h
  rcases open_slice Try.underlying24 hf with ⟨hcs, hx⟩ | ⟨a, len', cap', m, n, D, Pl, hcs, _, hl, hm, hmm, hx, hi⟩
  · simp [Value.cells] at hcs
    obtain ⟨rfl, rfl, rfl⟩ := hcs
    exact ⟨none, 0, [], rfl, fun h => absurd h (by simp), by simp⟩
  · simp [Value.cells] at hcs
    obtain ⟨rfl, rfl, rfl⟩ := hcs
    simp only [if_true] at hmm
    unfold maxLen at hm
    rw [cellsAc] at hi
    obtain ⟨b, off, spot⟩ := a
    have hsp0 : 0 < len → spot = none := fun h0 => by
      obtain ⟨cs', hc, ht⟩ := hi 0 (by omega)
      obtain ⟨x, rfl⟩ := ac_of ht
      obtain ⟨_, hcl, hat⟩ := World.cells?_some hc
      have := hat 0 (by omega)
      simpa [Addr.add] using World.cell?_spot (this.trans rfl)
    have each : ∀ i, i < len → ∃ x : Ac, AcAt W b (off + i * 7) x ∧ spot = none := by
      intro i hlt
      obtain ⟨cs', hc, ht⟩ := hi i (by omega)
      obtain ⟨x, rfl⟩ := ac_of ht
      obtain ⟨_, hcl, hat⟩ := World.cells?_some hc
      have hsp := hsp0 (by omega)
      subst hsp
      have key : ∀ (j : Nat) (u : Value), j < 7 → (.int .i64 x.kd :: .int .i64 x.nu :: ecs x.en : List Value)[j]? = some u → W.cell? ⟨b, off + i * 7 + j, none⟩ = some u := fun j u hj hu => by
        have := hat j hj
        rw [add_of, add_of] at this
        exact this.trans hu
      exact ⟨x, ⟨key 0 _ (by omega) rfl, key 1 _ (by omega) rfl, key 2 _ (by omega) rfl, key 3 _ (by omega) rfl, key 4 _ (by omega) rfl, key 5 _ (by omega) rfl, key 6 _ (by omega) rfl⟩, rfl⟩
    obtain ⟨X, hX⟩ := choose_lt (α := Ac) (p := fun i x => AcAt W b (off + i * 7) x ∧ spot = none) each
    refine ⟨some ⟨b, off, spot⟩, cap, (List.range len).map X, by simp, fun h0 => ?_, by simp; omega⟩
    have h0' : 0 < len := by simpa using h0
    obtain ⟨_, hsp⟩ := hX 0 h0'
    subst hsp
    refine ⟨b, off, rfl, fun j q hj => ?_⟩
    obtain ⟨hj1, rfl⟩ := range_at _ _ hj
    exact (hX j hj1).1
theorem open_ens {v : Value} {d : DataW H} {p : List MemPlace} (hv : Value.okWide Try.prog W r b0 22 v) (h : DataW.Trod enc Try.prog W 0 (fun _ => true) true 22 v d p) :
    ∃ (A : Option Addr) (cap : Nat) (l : List En), v = .slice A l.length cap ∧ Ens W A l ∧ l.length ≤ 9223372036854775807 ∧ l.length ≤ cap := by
  obtain ⟨a0, len, cap, rfl⟩ := okWide_slice Try.underlying22 hv
  obtain ⟨fuel, hf⟩ := h
  rcases open_slice Try.underlying22 hf with ⟨hcs, hx⟩ | ⟨a, len', cap', m, n, D, Pl, hcs, _, hl, hm, hmm, hx, hi⟩
  · simp [Value.cells] at hcs
    obtain ⟨rfl, rfl, rfl⟩ := hcs
    exact ⟨none, 0, [], rfl, fun h => absurd h (by simp), by simp, by simp⟩
  · simp [Value.cells] at hcs
    obtain ⟨rfl, rfl, rfl⟩ := hcs
    simp only [if_true] at hmm
    unfold maxLen at hm
    rw [cellsEn] at hi
    obtain ⟨b, off, spot⟩ := a
    have hsp0 : 0 < len → spot = none := fun h0 => by
      obtain ⟨cs', hc, ht⟩ := hi 0 (by omega)
      obtain ⟨x, rfl⟩ := en_of ht
      obtain ⟨_, hcl, hat⟩ := World.cells?_some hc
      have := hat 0 (by omega)
      simpa [Addr.add] using World.cell?_spot (this.trans rfl)
    have each : ∀ i, i < len → ∃ x : En, EnAt W b (off + i * 5) x ∧ spot = none := by
      intro i hlt
      obtain ⟨cs', hc, ht⟩ := hi i (by omega)
      obtain ⟨x, rfl⟩ := en_of ht
      obtain ⟨_, hcl, hat⟩ := World.cells?_some hc
      have hsp := hsp0 (by omega)
      subst hsp
      have key : ∀ (j : Nat) (u : Value), j < 5 → (ecs x)[j]? = some u → W.cell? ⟨b, off + i * 5 + j, none⟩ = some u := fun j u hj hu => by
        have := hat j hj
        rw [add_of, add_of] at this
        exact this.trans hu
      exact ⟨x, ⟨key 0 _ (by omega) rfl, key 1 _ (by omega) rfl, key 2 _ (by omega) rfl, key 3 _ (by omega) rfl, key 4 _ (by omega) rfl⟩, rfl⟩
    obtain ⟨X, hX⟩ := choose_lt (α := En) (p := fun i x => EnAt W b (off + i * 5) x ∧ spot = none) each
    refine ⟨some ⟨b, off, spot⟩, cap, (List.range len).map X, by simp, fun h0 => ?_, by simp; omega, by simpa using hl⟩
    have h0' : 0 < len := by simpa using h0
    obtain ⟨_, hsp⟩ := hX 0 h0'
    subst hsp
    refine ⟨b, off, rfl, fun j q hj => ?_⟩
    obtain ⟨hj1, rfl⟩ := range_at _ _ hj
    exact (hX j hj1).1
end
end Go.Proofs.Ytefikmfogbdhpaa.Po
