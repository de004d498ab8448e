/- play.did: every operation returns true and keeps what holds of three purses. -/
import Derived.Test.YtblegaclcpoonabAgK
import Derived.Test.YtblegaclcpoonabBase
import Derived.BigQuiet
import Derived.BigRegion
import Derived.Deep.DeepCutAuto
import Derived.Deep.CutBlock
import Derived.Deep.RegionLaw
namespace Go.Proofs.Ytblegaclcpoonab.Agent
open Go.ChangeShapes Go.WideShapes Go.ChangeAt Go.RowKit Go.Proofs.Ytblegaclcpoonab.Cell
set_option linter.unusedVariables false
set_option linter.unusedSimpArgs false

theorem row_oth {w : World} {g g2 : Nat} {t : TypeId} {cs : Array Value} (h : Row w g t cs) (hne : g ≠ g2) (i : Nat) (u : Value) : Row (w.setCell ⟨g2, i, none⟩ u) g t cs := (Below.heap_setCell w ⟨g2, i, none⟩ u g hne).trans h
/-- what is there while scripts are played: the play, its purses, memory from before -/
structure Pl (w0 w : World) (gx gp : Nat) (L : List Pu) (a b c d e : Int) : Prop where
  x : Row w gx 54 #[.slice (some ⟨gp, 0, none⟩) 3 3, .int .i64 a, .int .i64 b, .int .i64 c, .int .i64 d, .int .i64 e]
  p : Row w gp 41 (L.flatMap pcs).toArray
  bl : Below w0.heap.size w0 w
  gx0 : w0.heap.size ≤ gx
  gp0 : w0.heap.size ≤ gp
  ne : gx ≠ gp
theorem Pl.keep {w0 w w1 : World} {gx gp : Nat} {L : List Pu} {a b c d e : Int} (h : Pl w0 w gx gp L a b c d e) (hb : Below w.heap.size w w1) : Pl w0 w1 gx gp L a b c d e :=
  ⟨h.x.keep hb, h.p.keep hb, Gen.over hb h.bl, h.gx0, h.gp0, h.ne⟩
theorem Pl.cell {w0 w : World} {gx gp : Nat} {L : List Pu} {a b c d e : Int} (h : Pl w0 w gx gp L a b c d e) {i : Nat} {x : Pu} (hx : L[i]? = some x) : w.cell? ⟨gp, i * 3, none⟩ = some (.int .i64 x.t) ∧ w.cell? ⟨gp, i * 3 + 1, none⟩ = some (.int .i64 x.o) ∧ w.cell? ⟨gp, i * 3 + 2, none⟩ = some (.bool x.g) := by
  have h0 := h.p.cell (i * 3)
  have h1 := h.p.cell (i * 3 + 1)
  have h2 := h.p.cell (i * 3 + 2)
  have p0 := pcs_at hx (j := 0) (by omega)
  have p1 := pcs_at hx (j := 1) (by omega)
  have p2 := pcs_at hx (j := 2) (by omega)
  rw [List.getElem?_toArray] at h0 h1 h2
  exact ⟨h0.trans p0, h1.trans p1, h2.trans p2⟩
/-- one purse is written anew -/
theorem row_put {w : World} {gp : Nat} {L : List Pu} {i : Nat} {x : Pu} (y : Pu) (h : Row w gp 41 (L.flatMap pcs).toArray) (hx : L[i]? = some x) :
    Row (((w.setCell ⟨gp, i * 3, none⟩ (.int .i64 y.t)).setCell ⟨gp, i * 3 + 1, none⟩ (.int .i64 y.o)).setCell ⟨gp, i * 3 + 2, none⟩ (.bool y.g)) gp 41 ((L.set i y).flatMap pcs).toArray := by
  have := ((h.set (i * 3) (.int .i64 y.t)).set (i * 3 + 1) (.int .i64 y.o)).set (i * 3 + 2) (.bool y.g)
  rw [List.setIfInBounds_toArray, List.setIfInBounds_toArray, List.setIfInBounds_toArray, pcs_set y hx] at this
  exact this
theorem row3 {w : World} {g : Nat} {p q r : Value} (p' q' r' : Value) (h : Row w g 41 #[p, q, r]) : Row (((w.setCell ⟨g, 0, none⟩ p').setCell ⟨g, 1, none⟩ q').setCell ⟨g, 2, none⟩ r') g 41 #[p', q', r'] := ((h.set 0 p').set 1 q').set 2 r'
theorem row_oth3 {w : World} {g g2 : Nat} {t : TypeId} {cs : Array Value} (h : Row w g t cs) (hne : g ≠ g2) (p q r : Value) {i j l : Nat} : Row (((w.setCell ⟨g2, i, none⟩ p).setCell ⟨g2, j, none⟩ q).setCell ⟨g2, l, none⟩ r) g t cs := row_oth (row_oth (row_oth h hne i p) hne j q) hne l r
theorem Pl.st {w0 w : World} {gx gp : Nat} {L : List Pu} {a b c d e : Int} (h : Pl w0 w gx gp L a b c d e) {g : Nat} (h0 : w0.heap.size ≤ g) (h1 : g ≠ gx) (h2 : g ≠ gp) (i : Nat) (u : Value) : Pl w0 (w.setCell ⟨g, i, none⟩ u) gx gp L a b c d e :=
  ⟨row_oth h.x (Ne.symm h1) i u, row_oth h.p (Ne.symm h2) i u, h.bl.setCell h0 u, h.gx0, h.gp0, h.ne⟩
theorem Pl.st3 {w0 w : World} {gx gp : Nat} {L : List Pu} {a b c d e : Int} (h : Pl w0 w gx gp L a b c d e) {g : Nat} (h0 : w0.heap.size ≤ g) (h1 : g ≠ gx) (h2 : g ≠ gp) (p q r : Value) {i j l : Nat} : Pl w0 (((w.setCell ⟨g, i, none⟩ p).setCell ⟨g, j, none⟩ q).setCell ⟨g, l, none⟩ r) gx gp L a b c d e :=
  ((h.st h0 h1 h2 i p).st h0 h1 h2 j q).st h0 h1 h2 l r
theorem Pl.put {w0 w : World} {gx gp : Nat} {L : List Pu} {a b c d e : Int} (h : Pl w0 w gx gp L a b c d e) {i : Nat} {x : Pu} (y : Pu) (hx : L[i]? = some x) : Pl w0 (((w.setCell ⟨gp, i * 3, none⟩ (.int .i64 y.t)).setCell ⟨gp, i * 3 + 1, none⟩ (.int .i64 y.o)).setCell ⟨gp, i * 3 + 2, none⟩ (.bool y.g)) gx gp (L.set i y) a b c d e :=
  ⟨row_oth3 h.x h.ne _ _ _, row_put y h.p hx, ((h.bl.setCell h.gp0 _).setCell h.gp0 _).setCell h.gp0 _, h.gx0, h.gp0, h.ne⟩
theorem brk_or (x : Pu) : brE x.t x.o x.g = 0 ∨ (⟨brT x.t x.o x.g, x.o, brG x.t x.o x.g⟩ : Pu) = x := by
  by_cases h : brE x.t x.o x.g = 0
  · exact .inl h
  · refine .inr ?_
    unfold brT brG
    rw [if_neg h, if_neg h]
theorem Pl.sum_a {w0 w : World} {gx gp : Nat} {L : List Pu} {a b c d e : Int} (h : Pl w0 w gx gp L a b c d e) (v : Int) : Pl w0 (w.setCell ⟨gx, 1, none⟩ (.int .i64 v)) gx gp L v b c d e :=
  ⟨h.x.set 1 (.int .i64 v), row_oth h.p (Ne.symm h.ne) _ _, h.bl.setCell h.gx0 _, h.gx0, h.gp0, h.ne⟩
theorem Pl.sum_b {w0 w : World} {gx gp : Nat} {L : List Pu} {a b c d e : Int} (h : Pl w0 w gx gp L a b c d e) (v : Int) : Pl w0 (w.setCell ⟨gx, 2, none⟩ (.int .i64 v)) gx gp L a v c d e :=
  ⟨h.x.set 2 (.int .i64 v), row_oth h.p (Ne.symm h.ne) _ _, h.bl.setCell h.gx0 _, h.gx0, h.gp0, h.ne⟩
theorem Pl.sum_c {w0 w : World} {gx gp : Nat} {L : List Pu} {a b c d e : Int} (h : Pl w0 w gx gp L a b c d e) (v : Int) : Pl w0 (w.setCell ⟨gx, 3, none⟩ (.int .i64 v)) gx gp L a b v d e :=
  ⟨h.x.set 3 (.int .i64 v), row_oth h.p (Ne.symm h.ne) _ _, h.bl.setCell h.gx0 _, h.gx0, h.gp0, h.ne⟩
theorem Pl.sum_d {w0 w : World} {gx gp : Nat} {L : List Pu} {a b c d e : Int} (h : Pl w0 w gx gp L a b c d e) (v : Int) : Pl w0 (w.setCell ⟨gx, 4, none⟩ (.int .i64 v)) gx gp L a b c v e :=
  ⟨h.x.set 4 (.int .i64 v), row_oth h.p (Ne.symm h.ne) _ _, h.bl.setCell h.gx0 _, h.gx0, h.gp0, h.ne⟩
theorem Pl.sum_e {w0 w : World} {gx gp : Nat} {L : List Pu} {a b c d e : Int} (h : Pl w0 w gx gp L a b c d e) (v : Int) : Pl w0 (w.setCell ⟨gx, 5, none⟩ (.int .i64 v)) gx gp L a b c d v :=
  ⟨h.x.set 5 (.int .i64 v), row_oth h.p (Ne.symm h.ne) _ _, h.bl.setCell h.gx0 _, h.gx0, h.gp0, h.ne⟩
section
variable {w0 w : World} {gx gp : Nat} {L : List Pu} {a b c d e kind who dst n : Int} {k : Nat}
set_option maxRecDepth 100000 in
set_option maxHeartbeats 8000000 in
theorem did_a (h : Pl w0 w gx gp L a b c d e) (iv : IV k L a b c d e) (hk : k < 60) (h0 : who < 0) :
    Calls Try.prog 32 #[.pointer (some ⟨gx, 0, none⟩), .agg #[.int .i64 kind, .int .i64 who, .int .i64 dst, .int .i64 n]] w fun e' w' => e' = .returned (.bool true) ∧ ∃ L' a' b' c' d' e', IV (k + 1) L' a' b' c' d' e' ∧ Pl w0 w' gx gp L' a' b' c' d' e' := by
  have h1 := h.keep (Gen.b_alloc (x := .cells #[.int .i64 kind, .int .i64 who, .int .i64 dst, .int .i64 n] 57) (Below.refl _ _))
  have ho : Row (w.alloc (.cells #[.int .i64 kind, .int .i64 who, .int .i64 dst, .int .i64 n] 57)) w.heap.size 57 #[.int .i64 kind, .int .i64 who, .int .i64 dst, .int .i64 n] := Row.new _ _ _
  have x0 := h1.x.cell 0
  have o1 := ho.cell 1
  have o2 := ho.cell 2
  have q1 : decide (who < 0) = true := decide_eq_true h0
  go_enter Try.func32, Try.ntmps32
  go_wp2
  go_quiet (fail)
  go_wp2
  go_ret
  exact ⟨rfl, L, a, b, c, d, e, iv.mono, h1.keep (Gen.dN (Below.refl _ _) _)⟩
set_option maxRecDepth 100000 in
set_option maxHeartbeats 8000000 in
theorem did_b (h : Pl w0 w gx gp L a b c d e) (iv : IV k L a b c d e) (hk : k < 60) (h0 : 0 ≤ who) (h1w : 3 ≤ who) :
    Calls Try.prog 32 #[.pointer (some ⟨gx, 0, none⟩), .agg #[.int .i64 kind, .int .i64 who, .int .i64 dst, .int .i64 n]] w fun e' w' => e' = .returned (.bool true) ∧ ∃ L' a' b' c' d' e', IV (k + 1) L' a' b' c' d' e' ∧ Pl w0 w' gx gp L' a' b' c' d' e' := by
  have h1 := h.keep (Gen.b_alloc (x := .cells #[.int .i64 kind, .int .i64 who, .int .i64 dst, .int .i64 n] 57) (Below.refl _ _))
  have ho : Row (w.alloc (.cells #[.int .i64 kind, .int .i64 who, .int .i64 dst, .int .i64 n] 57)) w.heap.size 57 #[.int .i64 kind, .int .i64 who, .int .i64 dst, .int .i64 n] := Row.new _ _ _
  have x0 := h1.x.cell 0
  have o1 := ho.cell 1
  have o2 := ho.cell 2
  have q1 : decide (who < 0) = false := decide_eq_false (by omega)
  have q2 : decide (3 ≤ who) = true := decide_eq_true (by omega)
  go_enter Try.func32, Try.ntmps32
  go_wp2
  go_quiet (fail)
  go_wp2
  go_ret
  exact ⟨rfl, L, a, b, c, d, e, iv.mono, h1.keep (Gen.dN (Below.refl _ _) _)⟩
set_option maxRecDepth 100000 in
set_option maxHeartbeats 8000000 in
theorem did_c (h : Pl w0 w gx gp L a b c d e) (iv : IV k L a b c d e) (hk : k < 60) (h0 : 0 ≤ who) (h1w : who < 3) (h2 : dst < 0) :
    Calls Try.prog 32 #[.pointer (some ⟨gx, 0, none⟩), .agg #[.int .i64 kind, .int .i64 who, .int .i64 dst, .int .i64 n]] w fun e' w' => e' = .returned (.bool true) ∧ ∃ L' a' b' c' d' e', IV (k + 1) L' a' b' c' d' e' ∧ Pl w0 w' gx gp L' a' b' c' d' e' := by
  have h1 := h.keep (Gen.b_alloc (x := .cells #[.int .i64 kind, .int .i64 who, .int .i64 dst, .int .i64 n] 57) (Below.refl _ _))
  have ho : Row (w.alloc (.cells #[.int .i64 kind, .int .i64 who, .int .i64 dst, .int .i64 n] 57)) w.heap.size 57 #[.int .i64 kind, .int .i64 who, .int .i64 dst, .int .i64 n] := Row.new _ _ _
  have x0 := h1.x.cell 0
  have o1 := ho.cell 1
  have o2 := ho.cell 2
  have q1 : decide (who < 0) = false := decide_eq_false (by omega)
  have q2 : decide (3 ≤ who) = false := decide_eq_false (by omega)
  have q3 : decide (dst < 0) = true := decide_eq_true (by omega)
  go_enter Try.func32, Try.ntmps32
  go_wp2
  go_quiet (fail)
  go_wp2
  go_ret
  exact ⟨rfl, L, a, b, c, d, e, iv.mono, h1.keep (Gen.dN (Below.refl _ _) _)⟩
set_option maxRecDepth 100000 in
set_option maxHeartbeats 8000000 in
theorem did_d (h : Pl w0 w gx gp L a b c d e) (iv : IV k L a b c d e) (hk : k < 60) (h0 : 0 ≤ who) (h1w : who < 3) (h2 : 0 ≤ dst) (h3 : 3 ≤ dst) :
    Calls Try.prog 32 #[.pointer (some ⟨gx, 0, none⟩), .agg #[.int .i64 kind, .int .i64 who, .int .i64 dst, .int .i64 n]] w fun e' w' => e' = .returned (.bool true) ∧ ∃ L' a' b' c' d' e', IV (k + 1) L' a' b' c' d' e' ∧ Pl w0 w' gx gp L' a' b' c' d' e' := by
  have h1 := h.keep (Gen.b_alloc (x := .cells #[.int .i64 kind, .int .i64 who, .int .i64 dst, .int .i64 n] 57) (Below.refl _ _))
  have ho : Row (w.alloc (.cells #[.int .i64 kind, .int .i64 who, .int .i64 dst, .int .i64 n] 57)) w.heap.size 57 #[.int .i64 kind, .int .i64 who, .int .i64 dst, .int .i64 n] := Row.new _ _ _
  have x0 := h1.x.cell 0
  have o1 := ho.cell 1
  have o2 := ho.cell 2
  have q1 : decide (who < 0) = false := decide_eq_false (by omega)
  have q2 : decide (3 ≤ who) = false := decide_eq_false (by omega)
  have q3 : decide (dst < 0) = false := decide_eq_false (by omega)
  have q4 : decide (3 ≤ dst) = true := decide_eq_true (by omega)
  go_enter Try.func32, Try.ntmps32
  go_wp2
  go_quiet (fail)
  go_wp2
  go_ret
  exact ⟨rfl, L, a, b, c, d, e, iv.mono, h1.keep (Gen.dN (Below.refl _ _) _)⟩
set_option maxRecDepth 100000 in
set_option maxHeartbeats 8000000 in
theorem did_self (h : Pl w0 w gx gp L a b c d e) (iv : IV k L a b c d e) (hk : k < 60) {i j : Nat} (hi : i < 3) (hj : j < 3) (hij : i = j) (hkd : kind = 4) :
    Calls Try.prog 32 #[.pointer (some ⟨gx, 0, none⟩), .agg #[.int .i64 kind, .int .i64 (i : Int), .int .i64 (j : Int), .int .i64 n]] w fun e' w' => e' = .returned (.bool true) ∧ ∃ L' a' b' c' d' e', IV (k + 1) L' a' b' c' d' e' ∧ Pl w0 w' gx gp L' a' b' c' d' e' := by
  have h1 := h.keep (Gen.b_alloc (x := .cells #[.int .i64 kind, .int .i64 (i : Int), .int .i64 (j : Int), .int .i64 n] 57) (Below.refl _ _))
  have ho : Row (w.alloc (.cells #[.int .i64 kind, .int .i64 (i : Int), .int .i64 (j : Int), .int .i64 n] 57)) w.heap.size 57 #[.int .i64 kind, .int .i64 (i : Int), .int .i64 (j : Int), .int .i64 n] := Row.new _ _ _
  have x0 := h1.x.cell 0
  have o1 := ho.cell 1
  have o2 := ho.cell 2
  obtain ⟨x, hx⟩ : ∃ x, L[i]? = some x := ⟨L[i]'(by rw [iv.len]; exact hi), List.getElem?_eq_getElem _⟩
  obtain ⟨v0, v1, v2⟩ := h1.cell hx
  have hI : (i : Int) < 3 := by omega
  have hJ : (j : Int) < 3 := by omega
  have i0 : (0 : Int) ≤ (i : Int) := by omega
  have j0 : (0 : Int) ≤ (j : Int) := by omega
  have hZ := fun (k : Nat) => h1.keep (Gen.b_alloc (x := .cells #[.int .i64 0, .int .i64 0, .bool false] 41) (Gen.dN (Below.refl _ _) k))
  have hY := fun (k : Nat) => (ho.keep (Gen.b_alloc (x := .cells #[.int .i64 0, .int .i64 0, .bool false] 41) (Gen.dN (Below.refl _ _) k))).cell 1
  have z0 := fun (k : Nat) => (hZ k).x.cell 0
  have z1 := fun (k : Nat) => ((hZ k).cell hx).1
  have z2 := fun (k : Nat) => ((hZ k).cell hx).2.1
  have z3 := fun (k : Nat) => ((hZ k).cell hx).2.2
  have q1 : decide ((i : Int) < 0) = false := decide_eq_false (by omega)
  have q2 : decide (3 ≤ (i : Int)) = false := decide_eq_false (by omega)
  have q3 : decide ((j : Int) < 0) = false := decide_eq_false (by omega)
  have q4 : decide (3 ≤ (j : Int)) = false := decide_eq_false (by omega)
  have hij2 : ((i : Int) == (j : Int)) = true := by rw [hij]; simp
  subst hij
  subst hkd
  have o0 := ho.cell 0
  have g0 := h1.keep (Gen.b_alloc (x := .cells #[.int .i64 x.t, .int .i64 x.o, .bool x.g] 41) (Below.refl _ _))
  go_enter Try.func32, Try.ntmps32
  go_wp2
  go_quiet (fail)
  go_wp2
  go_region
  all_goals
    go_wp2
    go_ret
    exact ⟨rfl, L, a, b, c, d, e, iv.mono, h1.keep (by go_grown; exact Gen.dN (Below.refl _ _) _)⟩
end
end Go.Proofs.Ytblegaclcpoonab.Agent
