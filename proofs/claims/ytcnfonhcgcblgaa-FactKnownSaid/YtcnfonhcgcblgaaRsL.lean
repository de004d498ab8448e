/- Records in memory: written into, cut, built; for any law. -/
import Derived.Test.YtcnfonhcgcblgaaRsK
namespace Go.Proofs.Ytcnfonhcgcblgaa.Rk
open Go.ChangeShapes Go.WideShapes Go.ChangeAt Go.RowKit Go.Proofs.Ytcnfonhcgcblgaa.Cell
set_option linter.unusedVariables false
set_option linter.unusedSimpArgs false
theorem own_set {W : World} {base n size cap g j : Nat} {e : TypeId} {xs : List Value} (h : W.ownsRow base e size (.slice (some ⟨g, 0, none⟩) n cap) n xs) (u : Value) : (W.setCell ⟨g, j, none⟩ u).ownsRow base e size (.slice (some ⟨g, 0, none⟩) n cap) n (xs.set j u) := by
  refine ⟨by rw [List.length_set]; exact h.1, ?_⟩
  rcases h.2 with ⟨c, _⟩ | ⟨g', cap', cur, hv, hb, hg, h1, h2, h3, h4⟩
  · cases c
  · injection hv with e1 e2 e3
    injection e1 with e1
    injection e1 with e1
    subst e1 e3
    refine .inr ⟨g, cap, cur.setIfInBounds j u, rfl, hb, Row.set (t := e) (cs := cur) hg j u, h1, h2, by rw [Array.size_setIfInBounds]; exact h3, ?_⟩
    rw [Array.toList_setIfInBounds, List.take_set, h4]
theorem flat_set {α : Type} {f : α → List Value} {K : Nat} (hf : ∀ x, (f x).length = K) {o : Nat} (ho : o < K) {x y : α} {u : Value} (hy : f y = (f x).set o u) :
    ∀ (l : List α) (j : Nat), l[j]? = some x → (l.flatMap f).set (j * K + o) u = (l.set j y).flatMap f
  | [], j, h => by simp at h
  | z :: l, 0, h => by
    simp at h
    subst h
    rw [List.set_cons_zero, List.flatMap_cons, List.flatMap_cons, hy, Nat.zero_mul, Nat.zero_add, List.set_append_left _ _ (by rw [hf]; exact ho)]
  | z :: l, j + 1, h => by
    simp at h
    rw [List.set_cons_succ, List.flatMap_cons, List.flatMap_cons, List.set_append_right _ _ (by rw [hf, Nat.succ_mul]; omega), hf]
    rw [show (j + 1) * K + o - K = j * K + o by rw [Nat.succ_mul]; omega, flat_set hf ho hy l j h]
theorem own_cap {w : World} {B n c size : Nat} {e : TypeId} {A : Option Addr} {xs : List Value} (h : w.ownsRow B e size (.slice A n c) n xs) : n ≤ c := by
  rcases h.2 with ⟨h, h2⟩ | ⟨g, cap, cur, he, _, _, hn, _⟩
  · injection h with _ e2 e3; omega
  · injection he with _ e2 e3; omega
theorem reads_pre {w : World} {B size n k : Nat} {A : Option Addr} {xs : List Value} (h : App.Reads w B size A n xs) (hk : k ≤ n) : App.Reads w B size A k (xs.take (k * size)) := by
  refine ⟨by rw [List.length_take, h.1]; exact Nat.min_eq_left (Nat.mul_le_mul_right _ hk), fun h0 => ?_⟩
  obtain ⟨ad, e, hb, hcell⟩ := h.2 (by omega)
  refine ⟨ad, e, hb, fun j u hu => hcell j u ?_⟩
  rw [List.getElem?_take] at hu
  split at hu
  · exact hu
  · cases hu
theorem flat_cut {α : Type} {f : α → List Value} {K : Nat} (hf : ∀ x, (f x).length = K) (P Q : List α) : ((P ++ Q).flatMap f).take (P.length * K) = P.flatMap f ∧ ((P ++ Q).flatMap f).drop (P.length * K) = Q.flatMap f := by
  have hl : (P.flatMap f).length = P.length * K := Gen.flat_length (K := K) hf P
  rw [List.flatMap_append]
  exact ⟨by rw [List.take_append_of_le_length (by rw [hl]; exact Nat.le_refl _), List.take_of_length_le (by rw [hl]; exact Nat.le_refl _)], by rw [← hl]; exact List.drop_left⟩
theorem own_base {w : World} {B B' n size : Nat} {e : TypeId} {v : Value} {xs : List Value} (h : w.ownsRow B e size v n xs) (hB : B' ≤ B) : w.ownsRow B' e size v n xs := by
  refine ⟨h.1, ?_⟩
  rcases h.2 with h0 | ⟨g, cap, cur, h1, h2, h3⟩
  · exact .inl h0
  · exact .inr ⟨g, cap, cur, h1, Nat.le_trans hB h2, h3⟩
/-- the block of a slice of one's own -/
theorem own_row {W : World} {B n size cap g : Nat} {e : TypeId} {xs : List Value} (h : W.ownsRow B e size (.slice (some ⟨g, 0, none⟩) n cap) n xs) : Row W g e ((W.heap[g]?.bind fun o => match o with | .cells cs _ => some cs | _ => none).getD #[]) := by
  rcases h.2 with ⟨h1, _⟩ | ⟨g', cap', cur, hv, hB, hg, _⟩
  · cases h1
  · injection hv with e1
    injection e1 with e1
    injection e1 with e1
    subst e1
    rw [hg]
    exact hg
theorem blk0 (W : World) (t : TypeId) (k : Nat) : (W.alloc (.cells #[] t)).ownsRow W.heap.size t k (.slice (some ⟨W.heap.size, 0, none⟩) 0 0) 0 [] :=
  ⟨by simp, .inr ⟨W.heap.size, 0, #[], rfl, Nat.le_refl _, Row.new W _ _, Nat.le_refl _, by simp [maxLen], by simp, by simp⟩⟩
theorem blk1 (W : World) (t : TypeId) (K : Nat) (cs : Array Value) (hs : cs.size = K) : (W.alloc (.cells cs t)).ownsRow W.heap.size t K (.slice (some ⟨W.heap.size, 0, none⟩) 1 1) 1 cs.toList :=
  ⟨by simp [hs], .inr ⟨W.heap.size, 1, cs, rfl, Nat.le_refl _, Row.new W _ _, Nat.le_refl _, by simp [maxLen], by simp [hs], List.take_of_length_le (by simp [hs])⟩⟩
theorem blk1A (W : World) (o : Obj) (t : TypeId) (K : Nat) (cs : Array Value) (hs : cs.size = K) : ((W.alloc o).alloc (.cells cs t)).ownsRow (W.heap.size + 1) t K (.slice (some ⟨W.heap.size + 1, 0, none⟩) 1 1) 1 cs.toList := by
  have := blk1 (W.alloc o) t K cs hs
  rw [World.size_alloc] at this
  exact this
theorem blk0A (W : World) (o : Obj) (t : TypeId) (k : Nat) : ((W.alloc o).alloc (.cells #[] t)).ownsRow (W.heap.size + 1) t k (.slice (some ⟨W.heap.size + 1, 0, none⟩) 0 0) 0 [] := by
  have := blk0 (W.alloc o) t k
  rw [World.size_alloc] at this
  exact this
end Go.Proofs.Ytcnfonhcgcblgaa.Rk
