/- Acts of one's own; a list of pieces stays where an older row grows. -/
import Derived.Test.YthphlaijkknefaaBeaX
namespace Go.Proofs.Ythphlaijkknefaa.Bea
open Go.ChangeShapes Go.WideShapes Go.ChangeAt Go.RowKit Go.Proofs.Ythphlaijkknefaa.Cell
set_option linter.unusedVariables false
set_option linter.unusedSimpArgs false
def acv (a : Ac) : List Value := [.int .i64 a.kd, .int .i64 a.pi, .int .i64 a.co, .int .i64 a.wh, .int .i64 a.dy]
theorem infoAc : (Try.prog.info? 27).map (fun i => (i.zero, i.size, i.bytes)) = some (some (.agg #[.int .i64 0, .int .i64 0, .int .i64 0, .int .i64 0, .int .i64 0]), 5, 40) := by kernel_rfl
theorem acl_own {W : World} {B : Nat} {v : Value} {P : List Ac} (h : W.ownsRow B 27 5 v P.length (P.flatMap acv)) : ∃ A c, v = .slice A P.length c ∧ Acl W A P := by
  obtain ⟨A, c, rfl, hr⟩ := Gen.own_slice h
  refine ⟨A, c, rfl, fun h0 => ?_⟩
  obtain ⟨g, cap, hv, hb, hlt⟩ := h.form h0
  injection hv with e
  subst e
  refine ⟨g, 0, rfl, fun j x hx => ?_⟩
  have hj := lt_of_at hx
  have f : ∀ i, i < 5 → (P.flatMap acv)[j * 5 + i]? = (acv x)[i]? := fun i hi => Gen.flat_at (K := 5) (fun y => rfl) P j x hx i hi
  have c0 := h.cellAt (j * 5 + 0) (by omega)
  have c1 := h.cellAt (j * 5 + 1) (by omega)
  have c2 := h.cellAt (j * 5 + 2) (by omega)
  have c3 := h.cellAt (j * 5 + 3) (by omega)
  have c4 := h.cellAt (j * 5 + 4) (by omega)
  rw [f 0 (by omega)] at c0
  rw [f 1 (by omega)] at c1
  rw [f 2 (by omega)] at c2
  rw [f 3 (by omega)] at c3
  rw [f 4 (by omega)] at c4
  rw [Nat.zero_add]
  exact ⟨c0, c1, c2, c3, c4⟩
theorem acl_own' {W : World} {B m c : Nat} {A : Option Addr} {P : List Ac} (h : W.ownsRow B 27 5 (.slice A m c) P.length (P.flatMap acv)) : Acl W A P := by
  obtain ⟨A', c', e, h'⟩ := acl_own h
  injection e with e1 _ _
  subst e1
  exact h'
theorem cell_grown {W W' : World} {k : Option Nat} {b o : Nat} {v : Value} (hg : W.grownBy W' k) (hk : ∀ q, k = some q → q ≠ b) (h : W.cell? ⟨b, o, none⟩ = some v) : W'.cell? ⟨b, o, none⟩ = some v := by
  have hb := World.block_lt_of_cell? _ _ h
  have e := hg.block b hb (fun c => hk b c.symm rfl)
  rw [← h]
  simp only [World.cell?, e]
theorem Pcl.grow {W W' : World} {N g n c : Nat} {k : Option Nat} {l : List Pc} (h : Pcl W (some ⟨g, 0, none⟩) l) (hu : Up N W (.slice (some ⟨g, 0, none⟩) n c) l) (hg : W.grownBy W' k) (hk : ∀ q, k = some q → q < N) : Pcl W' (some ⟨g, 0, none⟩) l := fun h0 => by
  obtain ⟨b, off, e, hc⟩ := h h0
  injection e with e
  injection e with e1 e2
  subst e1 e2
  obtain ⟨u1, u2⟩ := hu g n c rfl
  have hG : ∀ q, k = some q → q ≠ g := fun q hq => by have := hk q hq; omega
  refine ⟨g, 0, rfl, fun j x hx => ?_⟩
  obtain ⟨c0, c1, ⟨A2, q2, c2, hbo⟩, c3, c4⟩ := hc j x hx
  refine ⟨cell_grown hg hG c0, cell_grown hg hG c1, ⟨A2, q2, cell_grown hg hG c2, fun hp => ?_⟩, cell_grown hg hG c3, cell_grown hg hG c4⟩
  obtain ⟨b2, o2, e2, hb2⟩ := hbo hp
  obtain ⟨b3, o3, c5, h3, h4⟩ := u2 j x hx hp
  rw [Nat.zero_add, h3] at c2
  injection c2 with c2
  injection c2 with c2 _ _
  rw [e2] at c2
  injection c2 with c2
  injection c2 with c6 c7
  subst c6
  exact ⟨b3, o2, e2, fun j' y hy => cell_grown hg (fun q hq => by have := hk q hq; omega) (hb2 j' y hy)⟩
end Go.Proofs.Ythphlaijkknefaa.Bea
