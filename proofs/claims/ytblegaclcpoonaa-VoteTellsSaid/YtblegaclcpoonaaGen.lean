/- What speaks of no package: rows of the call's own, blocks known whole, what is kept behind calls and appends. -/
import Derived.Test.YtblegaclcpoonaaApp
import Derived.Test.YtblegaclcpoonaaVoteC
import Derived.Deep.DrawnRows
import Derived.Deep.DeepMust
import Derived.IntWalk
namespace Go.Proofs.Ytblegaclcpoonaa.Gen
open Go.RowKit
set_option linter.unusedVariables false

theorem over {a W w1 : World} (hb : Below W.heap.size W w1) (hW : Below a.heap.size a W) : Below a.heap.size a w1 := hW.trans (hb.mono hW.size)
theorem keep {W w1 : World} {b o : Nat} {v : Value} (hb : Below W.heap.size W w1) (h : W.cell? ⟨b, o, none⟩ = some v) : w1.cell? ⟨b, o, none⟩ = some v :=
  (hb.cell (p := ⟨b, o, none⟩) (World.block_lt_of_cell? W ⟨b, o, none⟩ h)).trans h
theorem al {w : World} {o : Obj} {b j : Nat} {v : Value} (h : w.cell? ⟨b, j, none⟩ = some v) : (w.alloc o).cell? ⟨b, j, none⟩ = some v :=
  (World.cell?_alloc_lt w o ⟨b, j, none⟩ (World.block_lt_of_cell? w ⟨b, j, none⟩ h)).trans h
theorem dN {B : Nat} {w W : World} (h : Below B w W) (k : Nat) : Below B w (W.drewN k) := ⟨h.os, h.tape, h.output, h.size, h.block⟩
theorem b_alloc {a W : World} {x : Obj} (h : Below a.heap.size a W) : Below a.heap.size a (W.alloc x) := h.alloc h.size _
theorem b_set {a W : World} {p : Addr} {u : Value} (h : Below a.heap.size a W) (hp : a.heap.size ≤ p.block) : Below a.heap.size a (W.setCell p u) := h.setCell hp _
theorem own_keep {w w' : World} {base : Nat} {e : TypeId} {size : Nat} {v : Value} {n : Nat} {xs : List Value} (h : w.ownsRow base e size v n xs) (hb : Below w.heap.size w w') : w'.ownsRow base e size v n xs := by
  refine ⟨h.1, ?_⟩
  rcases h.2 with h0 | ⟨g, cap, cur, h1, h2, h3, h4⟩
  · exact .inl h0
  · refine .inr ⟨g, cap, cur, h1, h2, ?_, h4⟩
    rw [hb.block g (Array.getElem?_eq_some_iff.1 h3).1]
    exact h3
theorem own_slice {w : World} {base n size : Nat} {e : TypeId} {v : Value} {xs : List Value} (h : w.ownsRow base e size v n xs) : ∃ A c, v = .slice A n c ∧ App.Reads w w.heap.size size A n xs := by
  have h' := h
  rcases h'.2 with ⟨rfl, rfl⟩ | ⟨g, cap, cur, rfl, _⟩
  · exact ⟨none, 0, rfl, App.Reads.of_own h⟩
  · exact ⟨_, _, rfl, App.Reads.of_own h⟩
/-- behind an append onto a row of the call's own -/
theorem g_cell {a X W : World} {base size n p o : Nat} {e : TypeId} {v u : Value} {xs : List Value} (hown : a.ownsRow base e size v n xs) (hg : X.grownBy W v.ownBlock) (hp : a.heap.size ≤ p) (hc : X.cell? ⟨p, o, none⟩ = some u) :
    W.cell? ⟨p, o, none⟩ = some u :=
  hg.cell hc fun h => by
    have := (hown.lt p h.symm).2
    omega
theorem g_row {a X W : World} {base size n g : Nat} {e t : TypeId} {v : Value} {cs : Array Value} {xs : List Value} (hown : a.ownsRow base e size v n xs) (hg : X.grownBy W v.ownBlock) (hp : g < base) (hr : Vote.Row X g t cs) : Vote.Row W g t cs :=
  (hg.block g hr.lt fun h => by
    have := (hown.lt g h.symm).1
    omega).trans hr
theorem g_rowUp {a X W : World} {base size n g : Nat} {e t : TypeId} {v : Value} {cs : Array Value} {xs : List Value} (hown : a.ownsRow base e size v n xs) (hg : X.grownBy W v.ownBlock) (hp : a.heap.size ≤ g) (hr : Vote.Row X g t cs) : Vote.Row W g t cs :=
  (hg.block g hr.lt fun h => by
    have := (hown.lt g h.symm).2
    omega).trans hr
theorem g_below {w a X W : World} {base size n : Nat} {e : TypeId} {v : Value} {xs : List Value} (hown : a.ownsRow base e size v n xs) (hg : X.grownBy W v.ownBlock) (hb : Below w.heap.size w X) (h : w.heap.size ≤ base) : Below w.heap.size w W :=
  hb.grown hg hb.size fun k hk => Nat.le_trans h (hown.lt k hk).1
theorem rowAt (w : World) (t : TypeId) (cs : Array Value) {g : Nat} (h : g = w.heap.size) : Vote.Row (w.alloc (.cells cs t)) g t cs := by
  subst h
  exact Vote.Row.new _ _ _
theorem rowAtD (w : World) (t : TypeId) (cs : Array Value) {g : Nat} (h : g = w.heap.size) : Vote.Row (w.alloc (.cells cs t)).drew g t cs := rowAt w t cs h
theorem reads_blk {W : World} {g K : Nat} {t : TypeId} {cs : Array Value} (h : g = W.heap.size) (hK : cs.size = K) : App.Reads (W.alloc (.cells cs t)) (g + 1) K (some ⟨g, 0, none⟩) 1 cs.toList :=
  ⟨by simp [hK], fun _ => ⟨_, rfl, Nat.lt_succ_self _, fun j u hu => by
    have hr := rowAt W t cs h
    rw [Addr.add_lit, Nat.zero_add, hr.cell]
    simpa using hu⟩⟩
/-- elements of K cells, laid one behind the other -/
theorem flat_length {α : Type} {f : α → List Value} {K : Nat} (hf : ∀ x, (f x).length = K) (l : List α) : (l.flatMap f).length = l.length * K := by
  induction l with
  | nil => simp
  | cons x l ih => rw [List.flatMap_cons, List.length_append, hf, ih, List.length_cons, Nat.succ_mul]; omega
theorem flat_at {α : Type} {f : α → List Value} {K : Nat} (hf : ∀ x, (f x).length = K) : ∀ (l : List α) (j : Nat) (x : α), l[j]? = some x → ∀ i, i < K → (l.flatMap f)[j * K + i]? = (f x)[i]?
  | [], j, x, h, i, hi => by simp at h
  | y :: l, 0, x, h, i, hi => by
    simp at h
    subst h
    rw [List.flatMap_cons, List.getElem?_append_left (by rw [hf]; omega)]
    simp
  | y :: l, j + 1, x, h, i, hi => by
    rw [List.flatMap_cons, List.getElem?_append_right (by rw [hf, Nat.succ_mul]; omega), hf]
    have e : (j + 1) * K + i - K = j * K + i := by rw [Nat.succ_mul]; omega
    rw [e]
    exact flat_at hf l j x (by simpa using h) i hi
/-- a row whose elements are read, cell by cell -/
theorem reads_at {α : Type} {w : World} {B K n : Nat} {A : Option Addr} {f : α → List Value} {l : List α} (hf : ∀ x, (f x).length = K) (hK : 0 < K) (hn : l.length = n) (h : App.Reads w B K A n (l.flatMap f)) (h0 : 0 < l.length) :
    ∃ b off, A = some ⟨b, off, none⟩ ∧ ∀ j x, l[j]? = some x → ∀ i u, (f x)[i]? = some u → w.cell? ⟨b, off + (j * K + i), none⟩ = some u := by
  obtain ⟨ad, e, hb, hc⟩ := h.2 (by omega)
  have hx : l[0]? = some l[0] := List.getElem?_eq_getElem h0
  have hu : (f l[0])[0]? = some ((f l[0])[0]'(by rw [hf]; exact hK)) := List.getElem?_eq_getElem _
  have h1 := flat_at hf l 0 _ hx 0 hK
  rw [hu] at h1
  obtain ⟨b, off, spot⟩ := ad
  have hs : spot = none := by
    have := World.cell?_spot (hc _ _ h1)
    simpa [Addr.add] using this
  subst hs
  refine ⟨b, off, e, fun j x hj i u hi => ?_⟩
  have hiK : i < K := by
    have := (List.getElem?_eq_some_iff.1 hi).1
    rwa [hf] at this
  have := hc _ u ((flat_at hf l j x hj i hiK).trans hi)
  rwa [Addr.add_lit] at this
end Go.Proofs.Ytblegaclcpoonaa.Gen
