/- Bearer pieces of one's own, written into. -/
import Derived.Test.YthphlaijkknefaaBeaE
namespace Go.Proofs.Ythphlaijkknefaa.Bea
open Go.ChangeShapes Go.WideShapes Go.ChangeAt Go.RowKit Go.Proofs.Ythphlaijkknefaa.Cell
set_option linter.unusedVariables false
set_option linter.unusedSimpArgs false

theorem Pd.boos {B : Nat} {W : World} {pd : List Bool} {A : Option Addr} {c : Nat} (h : Pd B W pd (.slice A pd.length c)) : Boos W A pd := fun h0 => by
  rcases h with ⟨rfl, _⟩ | ⟨_, h⟩
  · simp at h0
  · obtain ⟨g, cap, hv, _, hlt⟩ := h.form h0
    obtain rfl : A = some ⟨g, 0, none⟩ := by injection hv
    refine ⟨g, 0, rfl, fun j x hx => ?_⟩
    have hj := lt_of_at hx
    have := h.cellAt j (by omega)
    rw [List.getElem?_map, hx] at this
    rw [Nat.zero_add]
    exact this
theorem Cpi.pcl {w0 W : World} {B g c n : Nat} {P : List (Pc × Value)} (h : Cpi w0 B W g c n P) (hn : P.length = n) : Pcl W (some ⟨g, 0, none⟩) (P.map (·.1)) := fun _ => by
  refine ⟨g, 0, rfl, fun j x hx => ?_⟩
  rw [List.getElem?_map] at hx
  cases hy : P[j]? with
  | none => rw [hy] at hx; cases hx
  | some y =>
    rw [hy] at hx
    have hx : y.1 = x := by injection hx
    subst hx
    have hj := lt_of_at hy
    obtain ⟨c0, c1, c2, c3, c4⟩ := h.cells hy
    have hp := h.pd j y (by omega) hy
    obtain ⟨A, c', e⟩ := hp.form
    rw [e] at hp c2
    rw [Nat.zero_add]
    exact ⟨c0, c1, ⟨A, c', c2, hp.boos⟩, c3, c4⟩
/-- a number of a piece is changed -/
theorem Cpi.put {w0 W : World} {B g c n j o : Nat} {P : List (Pc × Value)} {x x' : Pc} {u v : Value} (h : Cpi w0 B W g c n P) (hn : P.length = n) (hj : P[j]? = some (x, u)) (hpd : x'.pd = x.pd) (ho : o < 5) (hp : pcv (x', u) = (pcv (x, u)).set o v) :
    Cpi w0 B (W.setCell ⟨g, j * 5 + o, none⟩ v) g c n (P.set j (x', u)) := by
  have hl : (P.set j (x', u)).length = P.length := List.length_set
  have hjl := lt_of_at hj
  have hgb := h.o.lt g rfl
  have sN : ∀ q, q ≠ g → (W.setCell ⟨g, j * 5 + o, none⟩ v).heap[q]? = W.heap[q]? := fun q hq => Below.heap_setCell W ⟨g, j * 5 + o, none⟩ v q hq
  have old : ∀ (k : Nat) z, (P.set j (x', u))[k]? = some z → ∃ z0, P[k]? = some z0 ∧ z.1.pd = z0.1.pd ∧ z.2 = z0.2 := fun k z hz => by
    by_cases e : k = j
    · subst e
      rw [List.getElem?_set_self hjl] at hz
      injection hz with hz
      subst hz
      exact ⟨_, hj, hpd, rfl⟩
    · rw [List.getElem?_set_ne (fun a => e a.symm)] at hz
      exact ⟨z, hz, rfl, rfl⟩
  refine ⟨?_, ?_, ?_, ?_, ?_, h.bl.setCell (p := ⟨g, j * 5 + o, none⟩) (show w0.heap.size ≤ g by have := h.lo; omega) v, h.lo⟩
  · rw [hl, ← flat_set (f := pcv) (K := 5) (fun _ => rfl) ho hp P j hj]
    exact own_set h.o v
  · intro k z hk hz
    obtain ⟨z0, h0, e1, e2⟩ := old k z hz
    rw [e1, e2]
    exact (h.pd k z0 hk h0).keepG fun q a b => sN q (fun c => h.ap k z0 hk h0 a (c ▸ b))
  · intro k m z z' q hk hm hkm hz hz' n1 n2 q1
    obtain ⟨z0, h0, e1, e2⟩ := old k z hz
    obtain ⟨z1, h1, e3, e4⟩ := old m z' hz'
    rw [e4]
    exact h.dj k m z0 z1 q hk hm hkm h0 h1 (e1 ▸ n1) (e3 ▸ n2) (e2 ▸ q1)
  · intro k z hk hz n1
    obtain ⟨z0, h0, e1, e2⟩ := old k z hz
    rw [e2]
    exact h.ap k z0 hk h0 (e1 ▸ n1)
  · intro k z hk hz
    have := lt_of_at hz
    omega
/-- a coupon of a piece is paid -/
theorem Cpi.pay {w0 W : World} {B g c n j k q c' : Nat} {P : List (Pc × Value)} {x : Pc} (h : Cpi w0 B W g c n P) (hn : P.length = n) (hj : P[j]? = some (x, .slice (some ⟨q, 0, none⟩) x.pd.length c')) (hk : k < x.pd.length) :
    Cpi w0 B (W.setCell ⟨q, k, none⟩ (.bool true)) g c n (P.set j ({ x with pd := x.pd.set k true }, .slice (some ⟨q, 0, none⟩) x.pd.length c')) := by
  have hl : ∀ y, (P.set j y).length = P.length := fun y => List.length_set
  have hjl := lt_of_at hj
  have hne : x.pd ≠ [] := fun e => by rw [e] at hk; simp at hk
  have hpj := h.pd j _ (by omega) hj
  have hqb := hpj.lt hne (q := q) rfl
  have hgq : g ≠ q := fun e => h.ap j _ (by omega) hj hne (by rw [e]; rfl)
  have sN : ∀ b, b ≠ q → (W.setCell ⟨q, k, none⟩ (.bool true)).heap[b]? = W.heap[b]? := fun b hb => Below.heap_setCell W ⟨q, k, none⟩ _ b hb
  have hpc : (P.set j ({ x with pd := x.pd.set k true }, .slice (some ⟨q, 0, none⟩) x.pd.length c')).flatMap pcv = P.flatMap pcv := by
    have hs := flat_set (f := pcv) (K := 5) (fun _ => rfl) (o := 0) (by omega) (x := (x, .slice (some ⟨q, 0, none⟩) x.pd.length c')) (y := (({ x with pd := x.pd.set k true } : Pc), .slice (some ⟨q, 0, none⟩) x.pd.length c')) (u := .int .i64 x.is) rfl P j hj
    rw [← hs]
    have f := Gen.flat_at (f := pcv) (K := 5) (fun _ => rfl) P j _ hj 0 (by omega)
    obtain ⟨hlt, he⟩ := List.getElem?_eq_some_iff.1 f
    have : Value.int .i64 x.is = (P.flatMap pcv)[j * 5 + 0] := he.symm
    rw [this, List.set_getElem_self]
  refine ⟨?_, ?_, ?_, ?_, ?_, h.bl.setCell (p := ⟨q, k, none⟩) (show w0.heap.size ≤ q by have := h.lo; omega) _, h.lo⟩
  · rw [hl, hpc]
    exact ownsRow_setCell_other h.o (fun e => hgq (by injection e)) _
  · intro i z hi hz
    by_cases e : i = j
    · subst e
      rw [List.getElem?_set_self hjl] at hz
      injection hz with hz
      subst hz
      rcases hpj with ⟨t, _⟩ | ⟨_, t⟩
      · exact absurd t hne
      · refine .inr ⟨fun e => hne (by have := congrArg List.length e; simp at this; exact this), ?_⟩
        have := own_set (j := k) t (.bool true)
        rw [← List.map_set] at this
        show (W.setCell ⟨q, k, none⟩ (.bool true)).ownsRow B 4 1 (.slice (some ⟨q, 0, none⟩) x.pd.length c') (x.pd.set k true).length ((x.pd.set k true).map Value.bool)
        rw [List.length_set]
        exact this
    · rw [List.getElem?_set_ne (fun a => e a.symm)] at hz
      exact (h.pd i z hi hz).keepG fun b a e2 => sN b (fun c => h.dj j i _ z q (by omega) hi (fun a => e a.symm) hj hz hne a rfl (c ▸ e2))
  · intro i m z z' b hi hm him hz hz' n1 n2 q1
    have old : ∀ (m : Nat) z, (P.set j (({ x with pd := x.pd.set k true } : Pc), Value.slice (some ⟨q, 0, none⟩) x.pd.length c'))[m]? = some z → z.1.pd ≠ [] → ∃ z0, P[m]? = some z0 ∧ z0.1.pd ≠ [] ∧ z.2 = z0.2 := fun m z hz hn0 => by
      by_cases e : m = j
      · subst e
        rw [List.getElem?_set_self hjl] at hz
        injection hz with hz
        subst hz
        exact ⟨_, hj, hne, rfl⟩
      · rw [List.getElem?_set_ne (fun a => e a.symm)] at hz
        exact ⟨z, hz, hn0, rfl⟩
    obtain ⟨z0, h0, e1, e2⟩ := old i z hz n1
    obtain ⟨z1, h1, e3, e4⟩ := old m z' hz' n2
    rw [e4]
    exact h.dj i m z0 z1 b hi hm him h0 h1 e1 e3 (e2 ▸ q1)
  · intro i z hi hz n1
    by_cases e : i = j
    · subst e
      rw [List.getElem?_set_self hjl] at hz
      injection hz with hz
      subst hz
      exact h.ap i (x, .slice (some ⟨q, 0, none⟩) x.pd.length c') hi hj hne
    · rw [List.getElem?_set_ne (fun a => e a.symm)] at hz
      exact h.ap i z hi hz n1
  · intro i z hi hz
    have := lt_of_at hz
    rw [hl] at this
    omega
end Go.Proofs.Ythphlaijkknefaa.Bea
