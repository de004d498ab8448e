/- Lists of records in memory; deals in memory. -/
import Derived.Test.YtdmbgdbmfenbfaaFaP
import Derived.BigQuiet
import Derived.ArgAppend
namespace Go.Proofs.Ytdmbgdbmfenbfaa.Fa
open Go.ChangeShapes Go.WideShapes Go.ChangeAt Go.RowKit Go.Proofs.Ytdmbgdbmfenbfaa.Cell
set_option linter.unusedVariables false
set_option linter.unusedSimpArgs false

/-- a list of records in memory: f gives a record's cells, K many -/
def Rs {α : Type} (f : α → List Value) (K : Nat) (w : World) (A : Option Addr) (l : List α) : Prop :=
  0 < l.length → ∃ b off, A = some ⟨b, off, none⟩ ∧ ∀ (j : Nat) x, l[j]? = some x → ∀ (r : Nat) v, (f x)[r]? = some v → w.cell? ⟨b, off + j * K + r, none⟩ = some v
section
variable {α : Type} {f : α → List Value} {K : Nat}
theorem Rs.keep {w w1 : World} {A : Option Addr} {l : List α} (h : Rs f K w A l) (hb : Below w.heap.size w w1) : Rs f K w1 A l := fun h0 => by
  obtain ⟨b, off, e, hc⟩ := h h0
  exact ⟨b, off, e, fun j x hx r v hv => keep0 hb _ _ _ (hc j x hx r v hv)⟩
theorem Rs.at {w : World} {b off : Nat} {l : List α} (h : Rs f K w (some ⟨b, off, none⟩) l) {j : Nat} {x : α} (hx : l[j]? = some x) {r : Nat} {v : Value} (hv : (f x)[r]? = some v) : w.cell? ⟨b, off + j * K + r, none⟩ = some v := by
  obtain ⟨b', off', e, hc⟩ := h (by have := lt_of_at hx; omega)
  injection e with e
  injection e with e1 e2
  subst e1 e2
  exact hc j x hx r v hv
theorem Rs.take {w : World} {A : Option Addr} {l : List α} (h : Rs f K w A l) (k : Nat) : Rs f K w A (l.take k) := fun h0 => by
  rw [List.length_take] at h0
  obtain ⟨b, off, e, hc⟩ := h (by omega)
  exact ⟨b, off, e, fun j x hx => hc j x (by rw [List.getElem?_take] at hx; split at hx <;> first | exact hx | cases hx)⟩
theorem Rs.nil (w : World) (A : Option Addr) : Rs f K w A [] := fun h0 => by simp at h0
theorem rs_reads (hf : ∀ x, (f x).length = K) (hK : 0 < K) {w : World} {A : Option Addr} {l : List α} {n : Nat} (hn : l.length = n) (h : Rs f K w A l) : App.Reads w w.heap.size K A n (l.flatMap f) :=
  ⟨by rw [Gen.flat_length (K := K) hf, hn], fun h0 => by
    obtain ⟨b, off, e, hc⟩ := h (by omega)
    obtain ⟨z, hz⟩ := at_ l 0 (by omega)
    obtain ⟨v0, hv0⟩ := at_ (f z) 0 (by rw [hf]; exact hK)
    have hb : b < w.heap.size := World.block_lt_of_cell? w ⟨b, off + 0 * K + 0, none⟩ (hc 0 z hz 0 v0 hv0)
    refine ⟨⟨b, off, none⟩, e, hb, fun j u hu => ?_⟩
    have hj := lt_of_at hu
    rw [Gen.flat_length (K := K) hf] at hj
    have hm := Nat.mod_lt j hK
    have hd : j / K < l.length := Nat.div_lt_of_lt_mul (by rw [Nat.mul_comm]; exact hj)
    have hjj : j / K * K + j % K = j := by rw [Nat.mul_comm]; exact Nat.div_add_mod j K
    obtain ⟨x, hx⟩ := at_ l (j / K) hd
    have ht := Gen.flat_at (f := f) (K := K) hf l _ _ hx (j % K) hm
    rw [hjj, hu] at ht
    have := hc (j / K) x hx (j % K) u ht.symm
    rw [Addr.add_lit]
    rwa [show off + j / K * K + j % K = off + j by omega] at this⟩
theorem rs_own (hf : ∀ x, (f x).length = K) {w : World} {base n : Nat} {e : TypeId} {A : Option Addr} {c : Nat} {l : List α} (hn : l.length = n) (h : w.ownsRow base e K (.slice A n c) n (l.flatMap f)) : Rs f K w A l := fun h0 => by
  obtain ⟨g, cap, hv, _, hlt⟩ := h.form (by omega)
  have hA : A = some ⟨g, 0, none⟩ := by injection hv
  subst hA
  refine ⟨g, 0, rfl, fun j x hx r v hv => ?_⟩
  have hr := lt_of_at hv
  rw [hf] at hr
  have := h.cells (g := g) rfl (j * K + r) v (by rw [Gen.flat_at (f := f) (K := K) hf l _ _ hx r hr]; exact hv)
  rw [Addr.add_lit] at this
  rwa [show 0 + (j * K + r) = 0 + j * K + r by omega] at this
end
def tcs (x : Tr) : List Value := [.int .i64 x.b, .int .i64 x.u]
def qcs (x : Te) : List Value := [.int .i64 x.o, .int .i64 x.m]
def scs (s : St) : List Value := [.int .i64 s.k, .int .i64 s.n, .int .i64 s.a]
theorem tcs_one (l : List Tr) : ∀ u ∈ l.flatMap tcs, u.oneCell' = true := fun u hu => by
  obtain ⟨x, _, hx⟩ := List.mem_flatMap.1 hu
  simp [tcs] at hx
  rcases hx with rfl | rfl <;> rfl
theorem qcs_one (l : List Te) : ∀ u ∈ l.flatMap qcs, u.oneCell' = true := fun u hu => by
  obtain ⟨x, _, hx⟩ := List.mem_flatMap.1 hu
  simp [qcs] at hx
  rcases hx with rfl | rfl <;> rfl
theorem scs_one (l : List St) : ∀ u ∈ l.flatMap scs, u.oneCell' = true := fun u hu => by
  obtain ⟨x, _, hx⟩ := List.mem_flatMap.1 hu
  simp [scs] at hx
  rcases hx with rfl | rfl | rfl <;> rfl
/-- where a deal's lists lie -/
structure Pl where
  A1 : Option Addr
  c1 : Nat
  A2 : Option Addr
  c2 : Nat
  A3 : Option Addr
  c3 : Nat
/-- a deal's lists in memory -/
structure Dm (w : World) (d : Dl) (p : Pl) : Prop where
  t1 : Rs tcs 2 w p.A1 d.tr
  t2 : Rs qcs 2 w p.A2 d.te
  t3 : Rs scs 3 w p.A3 d.st
theorem Dm.keep {w w1 : World} {d : Dl} {p : Pl} (h : Dm w d p) (hb : Below w.heap.size w w1) : Dm w1 d p := ⟨h.t1.keep hb, h.t2.keep hb, h.t3.keep hb⟩
/-- a deal's value -/
def dval (d : Dl) (p : Pl) : Value := .agg #[.int .i64 d.c, .int .i64 d.r, .int .i64 d.t, .int .i64 d.e, .slice p.A1 d.tr.length p.c1, .slice p.A2 d.te.length p.c2, .slice p.A3 d.st.length p.c3]
/-- a deal's cells at an address -/
structure DmAt (w : World) (g : Nat) (d : Dl) (p : Pl) : Prop where
  k0 : w.cell? ⟨g, 0, none⟩ = some (.int .i64 d.c)
  k1 : w.cell? ⟨g, 1, none⟩ = some (.int .i64 d.r)
  k2 : w.cell? ⟨g, 2, none⟩ = some (.int .i64 d.t)
  k3 : w.cell? ⟨g, 3, none⟩ = some (.int .i64 d.e)
  k4 : w.cell? ⟨g, 4, none⟩ = some (.slice p.A1 d.tr.length p.c1)
  k5 : w.cell? ⟨g, 5, none⟩ = some (.slice p.A2 d.te.length p.c2)
  k6 : w.cell? ⟨g, 6, none⟩ = some (.slice p.A3 d.st.length p.c3)
theorem DmAt.keep {w w1 : World} {g : Nat} {d : Dl} {p : Pl} (h : DmAt w g d p) (hb : Below w.heap.size w w1) : DmAt w1 g d p :=
  ⟨keep0 hb _ _ _ h.k0, keep0 hb _ _ _ h.k1, keep0 hb _ _ _ h.k2, keep0 hb _ _ _ h.k3, keep0 hb _ _ _ h.k4, keep0 hb _ _ _ h.k5, keep0 hb _ _ _ h.k6⟩
end Go.Proofs.Ytdmbgdbmfenbfaa.Fa
