/- Bearer pieces: copies. -/
import Derived.Test.YthphlaijkknefaaBeaC
import Derived.Deep.RegionLaw
import Derived.Deep.DeepCutAuto
namespace Go.Proofs.Ythphlaijkknefaa.Bea
open Go.ChangeShapes Go.WideShapes Go.ChangeAt Go.RowKit Go.Proofs.Ythphlaijkknefaa.Cell
set_option linter.unusedVariables false
set_option linter.unusedSimpArgs false

def pcv (y : Pc × Value) : List Value := [.int .i64 y.1.is, .int .i64 y.1.un, y.2, .int .i64 y.1.lo, .int .i64 y.1.se]
/-- a list of coupons of one's own -/
def Pd (B : Nat) (W : World) (pd : List Bool) (u : Value) : Prop := (pd = [] ∧ ∃ A c, u = .slice A 0 c) ∨ (pd ≠ [] ∧ W.ownsRow B 4 1 u pd.length (pd.map Value.bool))
/-- pieces of one's own, of which the first ones have lists of their own -/
structure Cpi (w0 : World) (B : Nat) (W : World) (g c i : Nat) (P : List (Pc × Value)) : Prop where
  o : W.ownsRow B 36 5 (.slice (some ⟨g, 0, none⟩) P.length c) P.length (P.flatMap pcv)
  pd : ∀ (j : Nat) y, j < i → P[j]? = some y → Pd B W y.1.pd y.2
  dj : ∀ (j k : Nat) y z q, j < i → k < i → j ≠ k → P[j]? = some y → P[k]? = some z → y.1.pd ≠ [] → z.1.pd ≠ [] → y.2.ownBlock = some q → z.2.ownBlock ≠ some q
  ap : ∀ (j : Nat) y, j < i → P[j]? = some y → y.1.pd ≠ [] → y.2.ownBlock ≠ some g
  rest : ∀ (j : Nat) y, i ≤ j → P[j]? = some y → ∃ A c, y.2 = .slice A y.1.pd.length c ∧ Boos w0 A y.1.pd
  bl : Below w0.heap.size w0 W
  lo : w0.heap.size ≤ B
theorem Pd.keepG {B : Nat} {W W' : World} {pd : List Bool} {u : Value} (h : Pd B W pd u) (hk : ∀ q, pd ≠ [] → u.ownBlock = some q → W'.heap[q]? = W.heap[q]?) : Pd B W' pd u := by
  rcases h with h | ⟨h1, h2⟩
  · exact .inl h
  · refine .inr ⟨h1, h2.1, ?_⟩
    rcases h2.2 with hn | ⟨g, cap, cur, rfl, hb, hgg, rest⟩
    · exact .inl hn
    · exact .inr ⟨g, cap, cur, rfl, hb, (hk g h1 rfl).trans hgg, rest⟩
theorem Pd.lt {B : Nat} {W : World} {pd : List Bool} {u : Value} (h : Pd B W pd u) (hp : pd ≠ []) {q : Nat} (hq : u.ownBlock = some q) : B ≤ q ∧ q < W.heap.size := by
  rcases h with ⟨h, _⟩ | ⟨_, h⟩
  · exact absurd h hp
  · exact h.lt q hq
theorem Cpi.next {w0 W wz w5 : World} {B g c i : Nat} {P : List (Pc × Value)} {y : Pc × Value} {u : Value} (h : Cpi w0 B W g c i P) (hy : P[i]? = some y) (hb : Below W.heap.size W wz) (hg : wz.grownBy w5 none)
    (hu : Pd wz.heap.size w5 y.1.pd u) (hs : B ≤ wz.heap.size) : Cpi w0 B (w5.setCell ⟨g, i * 5 + 2, none⟩ u) g c (i + 1) (P.set i (y.1, u)) := by
  have hl : (P.set i (y.1, u)).length = P.length := List.length_set
  have hi := (List.getElem?_eq_some_iff.1 hy).1
  have hgb := h.o.lt g rfl
  have hb5 : Below W.heap.size W w5 := hb.grown hg hb.size (fun k hk => by cases hk)
  have ho5 := Gen.own_keep h.o hb5
  have s1 := hb.size
  have hun : ∀ q, y.1.pd ≠ [] → u.ownBlock = some q → W.heap.size ≤ q := fun q a b => by have := (hu.lt a b).1; omega
  have sN : ∀ q, q ≠ g → (w5.setCell ⟨g, i * 5 + 2, none⟩ u).heap[q]? = w5.heap[q]? := fun q hq => Below.heap_setCell w5 ⟨g, i * 5 + 2, none⟩ u q hq
  have old : ∀ (j : Nat) z, j < i → (P.set i (y.1, u))[j]? = some z → P[j]? = some z := fun j z hj hz => by rwa [List.getElem?_set_ne (by omega)] at hz
  refine ⟨?_, ?_, ?_, ?_, ?_, (Gen.over hb5 h.bl).setCell (p := ⟨g, i * 5 + 2, none⟩) (show w0.heap.size ≤ g by have := h.lo; omega) u, h.lo⟩
  · rw [hl, ← flat_set (f := pcv) (K := 5) (fun _ => rfl) (o := 2) (by omega) (x := y) (y := (y.1, u)) (u := u) rfl P i hy]
    exact own_set ho5 u
  · intro j z hj hz
    by_cases e : j = i
    · subst e
      rw [List.getElem?_set_self hi] at hz
      injection hz with hz
      subst hz
      have := Pd.keepG (W' := w5.setCell ⟨g, j * 5 + 2, none⟩ u) hu (fun q a b => sN q (by have := hun q a b; omega))
      rcases this with t | ⟨t1, t2⟩
      · exact .inl t
      · refine .inr ⟨t1, t2.1, ?_⟩
        rcases t2.2 with hn | ⟨g', cap, cur, e1, hbb, rest⟩
        · exact .inl hn
        · exact .inr ⟨g', cap, cur, e1, Nat.le_trans hs hbb, rest⟩
    · have hz' := old j z (by omega) hz
      exact (h.pd j z (by omega) hz').keepG fun q a b => by
        have := ((h.pd j z (by omega) hz').lt a b).2
        exact (sN q (fun c => h.ap j z (by omega) hz' a (c ▸ b))).trans (hb5.block q this)
  · intro j k z z' q hj hk hjk hz hz' n1 n2 q1 q2
    by_cases e : j = i
    · subst e
      rw [List.getElem?_set_self hi] at hz
      injection hz with hz
      subst hz
      have a1 := hun q n1 q1
      have a2 := ((h.pd k z' (by omega) (old k z' (by omega) hz')).lt n2 q2).2
      omega
    · by_cases e2 : k = i
      · subst e2
        rw [List.getElem?_set_self hi] at hz'
        injection hz' with hz'
        subst hz'
        have a1 := hun q n2 q2
        have a2 := ((h.pd j z (by omega) (old j z (by omega) hz)).lt n1 q1).2
        omega
      · exact h.dj j k z z' q (by omega) (by omega) hjk (old j z (by omega) hz) (old k z' (by omega) hz') n1 n2 q1 q2
  · intro j z hj hz n1 q1
    by_cases e : j = i
    · subst e
      rw [List.getElem?_set_self hi] at hz
      injection hz with hz
      subst hz
      have a1 := hun g n1 q1
      omega
    · exact h.ap j z (by omega) (old j z (by omega) hz) n1 q1
  · intro j z hj hz
    rw [List.getElem?_set_ne (by omega)] at hz
    exact h.rest j z (by omega) hz
theorem map_fst_set {P : List (Pc × Value)} {i : Nat} {y : Pc × Value} {u : Value} (h : P[i]? = some y) : (P.set i (y.1, u)).map (·.1) = P.map (·.1) := by
  rw [List.map_set]
  apply List.ext_getElem?
  intro j
  rw [List.getElem?_set]
  split
  · rename_i e
    subst e
    split
    · rw [List.getElem?_map, h]; rfl
    · rename_i e; rw [List.getElem?_eq_none (by omega)]
  · rfl
/-- the cells of a piece of one's own -/
theorem Cpi.cells {w0 W : World} {B g c i : Nat} {P : List (Pc × Value)} (h : Cpi w0 B W g c i P) {j : Nat} {y : Pc × Value} (hy : P[j]? = some y) :
    W.cell? ⟨g, j * 5, none⟩ = some (.int .i64 y.1.is) ∧ W.cell? ⟨g, j * 5 + 1, none⟩ = some (.int .i64 y.1.un) ∧ W.cell? ⟨g, j * 5 + 2, none⟩ = some y.2 ∧ W.cell? ⟨g, j * 5 + 3, none⟩ = some (.int .i64 y.1.lo) ∧ W.cell? ⟨g, j * 5 + 4, none⟩ = some (.int .i64 y.1.se) := by
  have hj := (List.getElem?_eq_some_iff.1 hy).1
  have f : ∀ i, i < 5 → (P.flatMap pcv)[j * 5 + i]? = (pcv y)[i]? := fun i hi => Gen.flat_at (K := 5) (fun y => rfl) P j y hy i hi
  have c0 := h.o.cellAt (j * 5 + 0) (by omega)
  have c1 := h.o.cellAt (j * 5 + 1) (by omega)
  have c2 := h.o.cellAt (j * 5 + 2) (by omega)
  have c3 := h.o.cellAt (j * 5 + 3) (by omega)
  have c4 := h.o.cellAt (j * 5 + 4) (by omega)
  rw [f 0 (by omega)] at c0
  rw [f 1 (by omega)] at c1
  rw [f 2 (by omega)] at c2
  rw [f 3 (by omega)] at c3
  rw [f 4 (by omega)] at c4
  exact ⟨c0, c1, c2, c3, c4⟩
theorem own_frozen {W : World} {B n g c size j : Nat} {e : TypeId} {xs : List Value} (h : W.ownsRow B e size (.slice (some ⟨g, 0, none⟩) n c) n xs) : W.frozen? ⟨g, j, none⟩ = false := by
  rcases h.2 with ⟨c, _⟩ | ⟨g', cap', cur, hv, hb, hg, _⟩
  · cases c
  · injection hv with e1
    injection e1 with e1
    injection e1 with e1
    subst e1
    exact frozen_of_row W g j cur e hg
end Go.Proofs.Ythphlaijkknefaa.Bea
