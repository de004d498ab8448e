/- Lists of records in memory, for any law. -/
import Derived.Test.YtcnfonhcgcblgaaBase
import Derived.BigQuiet
import Derived.ArgAppend
namespace Go.Proofs.Ytcnfonhcgcblgaa.Rk
open Go.ChangeShapes Go.WideShapes Go.ChangeAt Go.RowKit Go.Proofs.Ytcnfonhcgcblgaa.Cell
set_option linter.unusedVariables false
set_option linter.unusedSimpArgs false

/-- a list of records in memory: f gives a record's cells, K many -/
def Rs {α : Type} (f : α → List Value) (K : Nat) (w : World) (A : Option Addr) (l : List α) : Prop :=
  0 < l.length → ∃ b off, A = some ⟨b, off, none⟩ ∧ ∀ (j : Nat) x, l[j]? = some x → ∀ (r : Nat) v, (f x)[r]? = some v → w.cell? ⟨b, off + j * K + r, none⟩ = some v
section
variable {α : Type} {f : α → List Value} {K : Nat}
theorem Rs.keep {w w1 : World} {A : Option Addr} {l : List α} (h : Rs f K w A l) (hb : Below w.heap.size w w1) : Rs f K w1 A l := fun h0 => by
  obtain ⟨b, off, e, hc⟩ := h h0
  exact ⟨b, off, e, fun j x hx r v hv => keep0 hb _ _ _ (hc j x hx r v hv)⟩
theorem Rs.at {w : World} {b off : Nat} {l : List α} (h : Rs f K w (some ⟨b, off, none⟩) l) {j : Nat} {x : α} (hx : l[j]? = some x) {r : Nat} {v : Value} (hv : (f x)[r]? = some v) : w.cell? ⟨b, off + j * K + r, none⟩ = some v := by
  obtain ⟨b', off', e, hc⟩ := h (by have := lt_of_at hx; omega)
  injection e with e
  injection e with e1 e2
  subst e1 e2
  exact hc j x hx r v hv
theorem Rs.take {w : World} {A : Option Addr} {l : List α} (h : Rs f K w A l) (k : Nat) : Rs f K w A (l.take k) := fun h0 => by
  rw [List.length_take] at h0
  obtain ⟨b, off, e, hc⟩ := h (by omega)
  exact ⟨b, off, e, fun j x hx => hc j x (by rw [List.getElem?_take] at hx; split at hx <;> first | exact hx | cases hx)⟩
theorem Rs.nil (w : World) (A : Option Addr) : Rs f K w A [] := fun h0 => by simp at h0
theorem rs_reads (hf : ∀ x, (f x).length = K) (hK : 0 < K) {w : World} {A : Option Addr} {l : List α} {n : Nat} (hn : l.length = n) (h : Rs f K w A l) : App.Reads w w.heap.size K A n (l.flatMap f) :=
  ⟨by rw [Gen.flat_length (K := K) hf, hn], fun h0 => by
    obtain ⟨b, off, e, hc⟩ := h (by omega)
    obtain ⟨z, hz⟩ := at_ l 0 (by omega)
    obtain ⟨v0, hv0⟩ := at_ (f z) 0 (by rw [hf]; exact hK)
    have hb : b < w.heap.size := World.block_lt_of_cell? w ⟨b, off + 0 * K + 0, none⟩ (hc 0 z hz 0 v0 hv0)
    refine ⟨⟨b, off, none⟩, e, hb, fun j u hu => ?_⟩
    have hj := lt_of_at hu
    rw [Gen.flat_length (K := K) hf] at hj
    have hm := Nat.mod_lt j hK
    have hd : j / K < l.length := Nat.div_lt_of_lt_mul (by rw [Nat.mul_comm]; exact hj)
    have hjj : j / K * K + j % K = j := by rw [Nat.mul_comm]; exact Nat.div_add_mod j K
    obtain ⟨x, hx⟩ := at_ l (j / K) hd
    have ht := Gen.flat_at (f := f) (K := K) hf l _ _ hx (j % K) hm
    rw [hjj, hu] at ht
    have := hc (j / K) x hx (j % K) u ht.symm
    rw [Addr.add_lit]
    rwa [show off + j / K * K + j % K = off + j by omega] at this⟩
theorem rs_own (hf : ∀ x, (f x).length = K) {w : World} {base n : Nat} {e : TypeId} {A : Option Addr} {c : Nat} {l : List α} (hn : l.length = n) (h : w.ownsRow base e K (.slice A n c) n (l.flatMap f)) : Rs f K w A l := fun h0 => by
  obtain ⟨g, cap, hv, _, hlt⟩ := h.form (by omega)
  have hA : A = some ⟨g, 0, none⟩ := by injection hv
  subst hA
  refine ⟨g, 0, rfl, fun j x hx r v hv => ?_⟩
  have hr := lt_of_at hv
  rw [hf] at hr
  have := h.cells (g := g) rfl (j * K + r) v (by rw [Gen.flat_at (f := f) (K := K) hf l _ _ hx r hr]; exact hv)
  rw [Addr.add_lit] at this
  rwa [show 0 + (j * K + r) = 0 + j * K + r by omega] at this
end
theorem row_own {w : World} {g n K : Nat} {t : TypeId} {cs : Array Value} (h : Row w g t cs) (hs : cs.size = n * K) (hn : n ≤ maxLen) : w.ownsRow g t K (.slice (some ⟨g, 0, none⟩) n n) n cs.toList :=
  ⟨by rw [Array.length_toList, hs], .inr ⟨g, n, cs, rfl, Nat.le_refl _, h, Nat.le_refl _, hn, hs, by rw [List.take_of_length_le]; rw [Array.length_toList, hs]; exact Nat.le_refl _⟩⟩
theorem rs_row {α : Type} {f : α → List Value} {K n : Nat} (hf : ∀ x, (f x).length = K) {w : World} {g : Nat} {t : TypeId} {cs : Array Value} {l : List α} (h : Row w g t cs) (hl : l.length = n) (he : cs.toList = l.flatMap f) (hn : n ≤ maxLen) : Rs f K w (some ⟨g, 0, none⟩) l := by
  have hs : cs.size = n * K := by rw [← Array.length_toList, he, Gen.flat_length (K := K) hf, hl]
  have := row_own (K := K) h hs hn
  rw [he] at this
  exact rs_own hf hl this
end Go.Proofs.Ytcnfonhcgcblgaa.Rk
